import Derived.Test.YtnggdhnpjfigjaaGreatDoorBW
import Derived.Laws.CopyOwn
namespace Go.Proofs.YtnggdhnpjfigjaaGreatDoor
set_option maxHeartbeats 4000000
set_option maxRecDepth 100000
open _root_ renaming List.length->J,Nat->N,Int->I,Option.some->S,List.range->Rg,absurd->Sz,rfl->R,Option.none->U,Bool.true->So,Bool.false->Sn,Array.size->Z
open Go renaming World.alloc->D,Obj.cells->Sc,Ending.returned->Rt,RowKit.Below->Sw,Calls->Sk,World.cell?->E,World.setCell->Se,World.ownsRow->Sx,IntKind.i64->S6,undef->Su
open Value renaming slice->X,agg->Sa,int->Si,tuple->St,bool->Sb,pointer->Sj
open Go.RowKit Go.Proofs.Tryz Go.Shelf
variable{r:Bool}{t T z:I}{n m k B g i j c:N}{w v u W V:Ub}{a:Uj}{p:Uy}{M N_:Vp}{h:Vu}{d:Vv}{s:Wa}{l:Wc}{x:Wi}{f F:Wk}{q:Xe}
section
variable {tg: N -> Wa}
open Classical in
noncomputable def Zq(tg:Yr)(n b:N):Wa:=(Rg n).filter λa=>decide (JO tg a b)
theorem Jo{n a b:N}:a∈Zq tg n b↔a<n/\JO tg a b:=by
 unfold Zq;simp
theorem Fe(n b:N):(Zq tg n b).Nodup:=List.nodup_range.sublist jR
theorem VU{n a c:N}(ha:a<n)(h:JO tg c a)(g:c≠a):J (Zq tg n c)<J (Zq tg n a):=by
 have d:a∉Zq tg n c:=λk=>g<|Z1 h (Jo.1 k).2
 have e:=fL.2 ⟨d,Fe n c⟩;have f:(a::Zq tg n c) ⊆ Zq tg n a:=λx b=>by
  obtain rfl|b:=cH.1 b;·exact Jo.2 ⟨ha,Zd h.2⟩
  let⟨i,j⟩:=Jo.1 b;exact Jo.2 ⟨i,J8 j h⟩
 have:=kV e f;simp only[bA]at this;omega
theorem Uk{n b:N}(a:b<n):((Rg n).map (Zq tg n)).getD b []=Zq tg n b:=by simp[a]
theorem BP{n a b:N}(e:∀x,Re tg x->x<n)(h:O6 tg a b):L0 ((Rg n).map (Zq tg n)) b=(a:I):=by
 have f:=e b h.1.2;have d:=e a h.1.1;have m:NI (λa=>J (((Rg n).map (Zq tg n)).getD a [])) b (Zq tg n b)=S a:=by
  refine Co (Jo.2 ⟨d,h.1⟩) h.2 λc g j i=>?_;let⟨k,l⟩:=Jo.1 g;rw[Uk k,Uk d];exact VU d (h.3 c l j) i
 unfold L0;rw[Uk f,m];rfl
theorem BJ{n b:N}(d:b<n)(h:∀c,JO tg c b->c=b):L0 ((Rg n).map (Zq tg n)) b=-1:=by
 unfold L0;rw[Uk d,Cf λa ha=>h a (Jo.1 ha).2];rfl
end
section
variable {tg: N -> Wa}
structure YX(tg:Yr)(n:N)(P:Wc):Prop where
 len:J P=n
 get:∀b,b<n->(∃a:N,O6 tg a b/\P.getD b 0=(a:I))\/((∀c,JO tg c b->c=b)/\P.getD b 0=-1)
theorem vK{n:N}{P f:Wc}(h:YX tg n P)(k:YX tg n f):P=f:=by
 apply mG (G h.1 k.1.symm);intro i d e;have e1:P.getD i 0=P[i]:=by simp[d]
 have e2:f.getD i 0=f[i]:=by simp[e]
 rw[<-e1,<-e2];have b:i<n:=by rw[<-h.1];exact d
 obtain⟨a,ha,ea⟩|⟨ha,ea⟩:=h.2 i b
 .rcases k.2 i b with⟨c,hc,ec⟩|⟨hc,ec⟩;·rw[ea,ec,EU ha hc]
  exact Sz (hc a ha.1) ha.2
 obtain⟨c,hc,ec⟩|⟨hc,ec⟩:=k.2 i b;·exact Sz (ha c hc.1) hc.2
 rw[ea,ec]
open Classical in
theorem Wf{n:N}(g:∀x,Re tg x->x<n)(f:∀b,b<n->(∃a,O6 tg a b)\/∀c,JO tg c b->c=b):YX tg n ((Rg n).map (L0<|(Rg n).map (Zq tg n))):=by
 refine⟨sP,λb d=>?_⟩;have e:((Rg n).map (L0<|(Rg n).map (Zq tg n))).getD b 0=L0 ((Rg n).map (Zq tg n)) b:=by simp[d]
 rw[e];obtain⟨a,ha⟩|h:=f b d;·exact bC ⟨a,ha,BP g ha⟩
 exact aZ ⟨h,BJ d h⟩
def Nj(P:Wc)(b:N):Wa:=(Rg (J P)).filter λc=>P.getD c 0==(b:I)
def XT(P:List I):N->N->List N
 |0,b=>[b]
 |m+1,b=>b::(Nj P b).flatMap (XT P m)
theorem o8{P:Wc}{b c:N}:c∈Nj P b↔c<J P/\P.getD c 0=(b:I):=by
 unfold Nj;rw[fG,bE,iA]
theorem Kf{n:N}{P:Wc}(h:YX tg n P){b c:N}(f:c∈Nj P b):O6 tg b c:=by
 let⟨e,d⟩:=o8.1 f;obtain⟨a,ha,ea⟩|⟨_,ea⟩:=h.2 c (by rw[<-h.1];exact e)
 .rw[ea]at d;have:a=b:=O;rw[<-this];exact ha
 rw[ea]at d;omega
theorem Fi{P:Wc}{b:N}:J (Nj P b)<=J P:=aJ (fJ _ _) sP
theorem Ji{n:N}{P:Wc}(h:YX tg n P):∀(m b x:N),Re tg b->x∈XT P m b->JO tg b x
 |0,b,x,hb,a=>by
  have:x=b:=by simpa [XT]using a
  rw[this];exact Zd hb
 |m+1,b,x,hb,a=>by
  rw[XT,cH]at a;obtain rfl|a:=a;·exact Zd hb
  let⟨c,e,a⟩:=bV.1 a;have d:=Kf h e;exact J8 d.1<|Ji h m c x d.1.2 a
theorem qY{r:N}{P:Wc}(h:YX tg r P):∀(m b:N),Re tg b->(XT P m b).Nodup
 |0,b,_=>by simp[XT]
 |m+1,b,hb=>by
  rw[XT,fL];refine⟨λd=>?_,?_⟩
  .obtain⟨c,a,d⟩:=bV.1 d;have g:=Kf h a;exact g.2<|Z1 g.1 (Ji h m c b g.1.2 d)
  unfold List.Nodup;rw[iK];refine⟨λc a=>qY h m c (Kf h a).1.2,?_⟩;have p:(Nj P b).Nodup:=List.nodup_range.sublist jR;refine jT (λ{c i} a o j x d y q f=>?_) p;subst f;have e:=Kf h a;have id:=Kf h o;have l:=Ji h m c x e.1.2 d;have n:=Ji h m i x id.1.2 q;obtain k|k:=TY l n;·exact e.2<|Z1 e.1 (id.3 c k j)
  exact id.2<|Z1 id.1 (e.3 i k λf=>j f.symm)
theorem o9{n:N}{P:Wc}(h:YX tg n P)(c:∀x,Re tg x->x<n)(m:N){b:N}(a:Re tg b):J (XT P m b)<=n:=YS (qY h m b a) λx d=>c x (Ji h m b x a d).2
theorem qJ{n:N}{P:Wc}(h:YX tg n P)(e:∀x,Re tg x->x<n){b c:N}(d:c∈Nj P b):J (Zq tg n b)<J (Zq tg n c):=by
 have a:=Kf h d;exact VU (e c a.1.2) a.1 a.2
theorem rr(n b:N):J (Zq tg n b)<=n:=aJ (fJ _ _) sP
theorem B8{n:N}{P:Wc}(h:YX tg n P)(e:∀x,Re tg x->x<n){b:N}(d:Re tg b)(g:b≠0):∃c:N,P.getD b 0=(c:I)/\c<n/\Re tg c/\J (Zq tg n c)<J (Zq tg n b)/\∀a,a≠b->(JO tg a b↔JO tg a c):=by
 obtain⟨c,hc,ec⟩|⟨hc,_⟩:=h.2 b (e b d);·exact⟨c,ec,e c hc.1.1,hc.1.1,VU (e b d) hc.1 hc.2,λa i=>⟨λk=>hc.3 a k i,λk=>J8 k hc.1⟩⟩
 exact Sz (hc 0<|CW d) λf=>g f.symm
end
section
def VB(b:N->N->N)(a:List N):N->N->I
 |0,_=>-1
 |i+1,z=>match (a.take i).reverse.find? (λc=>!Xh (b<|a.getD i 0) c)with
  |some c=>if z=a.getD i 0 then (c:I)else VB b a i z
  |none=>VB b a i z
theorem uY{c:Vp}{a:Wa}{i b:N}(h:(a.take i).reverse.find? (λb=>!Xh (c<|a.getD i 0) b)=S b)(z:N):VB c a (i+1) z=if z=a.getD i 0 then (b:I)else VB c a i z:=by
 rw[VB,h]
theorem uC{b:Vp}{a:Wa}{i:N}(h:(a.take i).reverse.find? (λc=>!Xh (b<|a.getD i 0) c)=U)(z:N):VB b a (i+1) z=VB b a i z:=by
 rw[VB,h]
theorem wk{a:Wa}{i:N}(f:∀z∈a,z<i)(c:0<i){len:N}(b:len<=J a):(K7 (WF f c) len 0).map (λx=>x.1.2)=(a.take len).reverse:=by
 apply mG;·simp[K7,b]
 intro j d g;have h:j<len:=by simpa [K7]using d
 have e:len-1-j<J a:=O;simp[K7,WF,jZ b,aC e]
theorem wG{b:Type}(f:N->b){len:N}:∀(k:N),k<=len->∃r,K7 f len 0=K7 f len k++r
 |0,_=>⟨[],sP⟩
 |k+1,h=>by
  obtain⟨r,a⟩:=wG f (len:=len) k O;exact⟨f k::r,by rw[a,qK f<|show k<len from h];simp⟩
theorem Dc{d:Wa}{o:N}(b:∀z∈d,z<o)(a:0<o){len k:N}(h:len<=J d)(g:k<=len){p:Ys}{c:List (Pb o)}{x:Pb o}(e:c++[x]=K7 (WF b a) len k)(i:∀y∈c,p y.1.2=Sn)(m:p x.1.2=So):(d.take len).reverse.find? p=S x.1.2:=by
 let⟨r,j⟩:=wG (WF b a) k g;rw[<-wk b a h,j,<-e,bG,bG,List.find?_append,List.find?_append];have f:(c.map λx=>x.1.2).find? p=U:=by
  rw[lS];intro y n;obtain⟨u,l,rfl⟩:=aY.1 n;rw[i u l];decide
 rw[f];simp[m]
theorem CR{a:Wa}{h:N}(c:∀z∈a,z<h)(b:0<h){len:N}(d:len<=J a){p:Ys}(e:∀y∈K7 (WF c b) len 0,p y.1.2=Sn):(a.take len).reverse.find? p=U:=by
 rw[<-wk c b d,lS];intro y g;obtain⟨u,f,rfl⟩:=aY.1 g;rw[e u f];decide
theorem qC{Ws:Vp}{a:Wa}{b:N}:∀(i:N),i<=J a->(∀j,j<i->a.getD j 0≠b)->VB Ws a i b=-1
 |0,_,_=>R
 |i+1,hi,h=>by
  have c:=qC (Ws:=Ws) i O λj d=>h j O;rw[VB];split;·rw[aM λe=>h i O e.symm];exact c
  exact c
theorem uU{Ws:Vp}{ord:Wa}{b i:N}:∀(m:N),(∀j,i<=j->j<i+m->ord.getD j 0≠b)->VB Ws ord (i+m) b=VB Ws ord i b
 |0,_=>R
 |m+1,h=>by
  have c:=uU (Ws:=Ws) (i:=i) m λj a d=>h j a O;rw[<-c,<-Nat.add_assoc,VB];split;·rw[aM λe=>h (i+m) O O e.symm]
  rfl
variable {tg: N -> Wa}
theorem UR{n:N}{Ws:Vp}{o:Wa}(t:o.Nodup)(l:∀x,x∈o↔Re tg x)(w:∀x,Re tg x->x<n)(y:∀x a,JO tg a x->a≠x->Oh o a x)(B:∀b,b<n->∀x,x<n->(Xh (Ws b) x=So↔Av tg x b)):YX tg n ((Rg n).map (VB Ws o (J o))):=by
 refine⟨sP,λb r=>?_⟩;have f:((Rg n).map (VB Ws o (J o))).getD b 0=VB Ws o (J o) b:=by simp[r]
 rw[f];by_cases m:b∈o
 .let⟨i,g,e⟩:=bR m;have u:=gY.1 (show o.Pairwise (·≠·)from t);have h:∀j (d:j<J o),o.getD j 0=o[j]:=λj d=>by simp[d]
  have p:VB Ws o (J o) b=VB Ws o (i+1) b:=by
   have:=uU (Ws:=Ws) (ord:=o) (b:=b) (i:=i+1) (J o-(i+1)) (λj p q=>by
    have d:j<J o:=O;rw[h j d,<-e];exact λf=>u i j g d O f.symm)
   rw[show i+1+(J o-(i+1))=J o by omega]at this;exact this
  have q:VB Ws o i b=-1:=qC i O (λj d=>by
   have s:j<J o:=O;rw[h j s,<-e];exact u j i s g d)
  have z:∀a∈o,(!Xh (Ws<|o.getD i 0) a)=So↔¬Av tg a o[i]:=λa ha=>by
   rw[h i g,<-B o[i] (e▸r) a (w a<|(l a).1 ha)];simp
  have k:=CJ t l y g z;rw[p];cases hf:(o.take i).reverse.find? (λa=>!Xh (Ws<|o.getD i 0) a)with
  |some a=>
   rw[hf]at k;rw[uY hf,h i g,e,aU R];exact bC ⟨a,e▸k,R⟩
  |none=>
   rw[hf]at k;rw[uC hf,q];exact aZ ⟨e▸k,R⟩
 refine aZ ⟨λc v=>Sz ((l b).2 v.2) m,qC _ aA λj d f=>m ?_⟩;have:o.getD j 0=o[j]:=by simp[d]
 rw[<-f,this];exact aH d
end
def XX(a:Wi)(k b:N):Wa:=(Rg k).filter λj=>decide (b∈X8 a j)
theorem tW{a:Wi}(d:∀x∈a,∀t∈x.3.tg,0<=t)(b:N):∀(k:N),k<=J a->AQ (a.take k) 0 (b:I)=Xi (XX a k b)
 |0,_=>by simp[AQ,XX,Xi]
 |k+1,g=>by
  have c:k<J a:=g;rw[bN c,ZK,tW d b k O];have i:J (a.take k)=k:=by simp;omega
  have f:a[k].3.tg.contains (b:I)=decide (b∈X8 a k):=by
   rw[Km c,eQ,eY,bD,aY];constructor;·exact λh=>⟨_,h,sP⟩
   rintro⟨t,e,j⟩;have l:=d _ (aH c) t e;have:t=(b:I):=O;rw[<-this];exact e
  rw[f,i];unfold XX;rw[dN,eU,iW,jX];by_cases h:b∈X8 a k;·rw[aU SI,aU<|by simpa using h];simp[Xi]
  rw[aM SI,aM<|by simpa using h];simp[Xi]
theorem K9(a:∀c∈x,∀t∈c.3.tg,0<=t)(b:N):AQ x 0 (b:I)=Xi (XX x (J x) b):=by
 have:=tW a b (J x)<|aA;rwa[gC]at this
theorem Uf:k∈XX x n m↔k<n/\m∈X8 x k:=by
 unfold XX;rw[fG,bE,bD]
theorem tR{xs b}:J (XX xs n b)<=n:=aJ (fJ _ _) sP
def Zp(a:Wi):Wk×Wa:=C9 (X8 a) (J a) 0 (λ_=>0,[])
def Ja(a:Wi):Wa:=(Zp a).2.reverse
structure UF(xs:Wi):Prop where
 n1:1<=J xs
 n2:J xs<=1000
 tgt:∀x∈xs,∀t∈x.3.tg,0<=t/\t<J xs
 ok:mp xs (J xs)
theorem Wz(h:XJ ⟨t,x⟩=So):UF x:=by
 simp only[XJ,bY]at h;let⟨⟨⟨⟨a,c⟩,_⟩,_⟩,_⟩:=h;simp only[Y6,bY,bD]at a;have b:=Vi c;exact⟨a.1.1.2,a.1.2,λe d=>(b e d).1,b⟩
theorem UF.tg(h:UF x):∀b,b<J x->∀t∈X8 x b,t<J x:=λb a t c=>by
 rw[Km a]at c;obtain⟨z,d,rfl⟩:=aY.1 c;have:=h.3 _ (aH a) z d;omega
theorem UF.re(h:UF x):∀a,Re (X8 x) a->a<J x:=λa c=>by
 induction c with
 |root=>exact h.1
 |step _ b d=>exact h.tg _ d _ b
theorem UF.top(h:UF x):(∀a,a∈Ja x↔Re (X8 x) a)/\(∀a,Xh (Zp x).1 a=So↔Re (X8 x) a)/\(Ja x).Nodup/\∀a b,JO (X8 x) b a->b≠a->Oh (Ja x) b a:=by
 let⟨d,f,g,i⟩:=ER h.tg h.1<|@aA (J x);refine⟨λa=>?_,f,?_,λa b j c=>Be<|i a b j c⟩
 .show a∈(Zp x).2.reverse↔_;rw[kU];exact d a
 show((Zp x).2.reverse).Nodup;exact List.pairwise_reverse.2<|g.imp λc e=>c e.symm
theorem UF.av(h:UF x)(f:∀b,b<J x->∀a,a<J x->(Xh (M b) a=So↔Sp (Nt (J x)) (N7 (J x)) (·∈Ja x) (λb=>((Rg (J x)).map (XX x (J x))).getD b []) b a)):∀b,b<J x->∀a,a<J x->(Xh (M b) a=So↔Av (X8 x) a b):=λb c a d=>by
 rw[f b c a d];refine Gf (n:=J x) (λb a d=>EN d) (λb a _ c=>En c) (λb=>h.top.1 b) h.re (λb s c=>?_) d;have e:((Rg (J x)).map (XX x (J x))).getD b []=XX x (J x) b:=by simp[c]
 rw[e];exact Uf
theorem UF.idm(h:UF x){Ws:Vp}(c:∀b,b<J x->∀a,a<J x->(Xh (Ws b) a=So↔Sp (Nt (J x)) (N7 (J x)) (·∈Ja x) (λb=>((Rg (J x)).map (XX x (J x))).getD b []) b a)):YX (X8 x) (J x) ((Rg (J x)).map (VB Ws (Ja x) (J (Ja x)))):=UR h.top.2.2.1 h.top.1 h.re h.top.2.2.2<|h.av c
theorem UF.ord_len(h:UF x):0<J (Ja x)/\J (Ja x)<=J x/\∀b∈Ja x,b<J x :=
 ⟨eJ<|(h.top.1 0).2 Re.root,YS h.top.2.2.1 λa d=>h.re a<|(h.top.1 a).1 d,λb c=>h.re b<|(h.top.1 b).1 c⟩
theorem Dh{tg}(h:YX tg n l)(c:∀x,Re tg x->x<n):∀p∈l,-1<=p/\p<n:=λp d=>by
 obtain⟨i,b,rfl⟩:=bR d;have e:l.getD i 0=l[i]:=by simp[b]
 rw[<-e];obtain⟨a,ha,ea⟩|⟨_,ea⟩:=h.2 i (by rw[<-h.1];exact b)
 .have:=c a ha.1.1;omega
 omega
structure Jy(V:N)(xs:Wi):Prop where
 okf:UF xs
 vle:V<=2000
 ops:∀x∈xs,∀y∈x.2,1<=y.1/\y.1<=13
 kind:∀x∈xs,1<=x.3.1/\x.3.1<=3
 rdi:∀x∈xs,∀y∈x.2,∀v∈Iw y,0<=v/\v<V
 wri:∀x∈xs,∀y∈x.2,∀v∈BW y,0<=v/\v<V
 rdt:∀x∈xs,∀v∈Id x.3,0<=v/\v<V
 phd:∀x∈xs,∀p∈x.1,0<=p.1/\p.1<V
 pha:∀t (h:t<J xs),∀p∈xs[t].1,J p.2=J (AQ xs 0 (t:I))/\∀a∈p.2,0<=a/\a<V
 lens:∀x∈xs,J x.2<=4000/\J x.1<=4000
theorem Vb(h:Tp r t T z=So)(a:r=So):T<=t/\t<z:=by
 subst a;simpa [Tp]using h
theorem AX(h:q∈x):Ul q<=Xo x:=by
 unfold Xo
 induction x with
 |nil=>cases h
 |cons y b a=>
  obtain rfl|h:=cH.1 h;·simp
  have:=a h;simp;omega
theorem wB:∀a:Za,J a<=XZ a
 |[]=>aA
 |p::a=>by have:=wB a;simp[XZ]at*;omega
theorem XH(h:XJ ⟨(n:I),x⟩=So):Jy n x:=by
 have w:=Wz h;simp only[XJ,bY]at h;let⟨⟨⟨⟨j,o⟩,q⟩,r⟩,_⟩:=h;simp only[Y6,bY,bD]at j;have f:∀b∈x,∀y∈b.2,Yw (n:I) 10 y=So:=λb c y d=>dV.1 (dV.1 q b c) y d
 have l:∀b∈x,Zu (n:I) 1 (J x) b.3=So:=λb c=>by
  have:=dV.1 o b c;simp only[Jf,bY]at this;exact this.1
 have k:=(Zr ZX ⟨(n:I),x⟩ x 0).1 r;refine⟨w,O,λb c y d=>?_,λb c=>?_,λb c y d v a=>?_,λb c y d v a=>?_,λb c v a=>?_,λb c p g=>?_,λt i p g=>?_,λb c=>?_⟩
 .have:=f b c y d;simp only[Yw,bY,bD]at this;omega
 .have:=l b c;simp only[Zu,bY,bD]at this;omega
 .have:=f b c y d;simp only[Yw,bY]at this;let⟨⟨⟨⟨_,_⟩,ha⟩,s⟩,_⟩:=this;unfold Iw at a;obtain a|a:=bU.1 a
  .by_cases e:aB y.1=So
   .rw[aU e]at a;have e2:v=y.a:=by simpa using a
    rw[e2];exact Vb ha e
   rw[aM e]at a;cases a
  by_cases e:bB y.1=So
  .rw[aU e]at a;have e2:v=y.b:=by simpa using a
   rw[e2];exact Vb s e
  rw[aM e]at a;cases a
 .have:=f b c y d;simp only[Yw,bY]at this;let⟨⟨⟨⟨_,u⟩,_⟩,_⟩,_⟩:=this;unfold BW at a;by_cases e:dB y.1=So
  .rw[aU e]at a;have e2:v=y.2:=by simpa using a
   rw[e2];exact Vb u e
  rw[aM e]at a;cases a
 .have:=l b c;simp only[Zu,bY]at this;let⟨⟨⟨_,ha⟩,_⟩,_⟩:=this;unfold Id at a;by_cases e:(b.3.1 != 1)=So
  .rw[aU e]at a;have e2:v=b.3.a:=by simpa using a
   rw[e2];exact Vb ha e
  rw[aM e]at a;cases a
 .obtain⟨t,i,rfl⟩:=bR c;have:=dV.1 (k t i) p g;simp only[ZX,bY]at this;exact Vb this.1 R
 .have:=dV.1 (k t i) p g;simp only[ZX,Jt,bY,bD,dV]at this;rw[aV]at this;exact⟨this.2.1.2,λm ha=>this.2.2 m ha⟩
 have:=AX c;have z:=j.2;have:=wB b.1;unfold Ul at*;omega
def X9(l:Wc):Wa:=l.map Int.toNat
theorem Kv(h:∀v∈l,0<=v):(X9 l).map Int.ofNat=l:=by
 unfold X9;rw[jO]
 conv=>rhs;rw[<-List.map_id l]
 apply gH;intro v a;have:=h v a;simp[Function.comp];omega
theorem YV(h:∀v∈l,0<=v):n∈X9 l↔(n:I)∈l:=by
 unfold X9;rw[aY];constructor
 .rintro⟨v,a,rfl⟩;have:=h v a;rw[show((v.toNat:N):I)=v by omega];exact a
 intro b;exact⟨_,b,O⟩
def Og(a:Wi)(t:N)(b:Za):List (N×N):=b.flatMap λp=>(XX a (J a) t).zip (X9 p.2)
def PW(a:Wi)(t:N):List (N×N):=(a[t]?).elim [] λx=>Og a t x.1
def Nr(a:Wi)(k:N):List (N×N):=(Rg k).flatMap (PW a)
structure PF(w2 wr:Ub)(G_ n K:N)(gs:Wk)(Ws:Vp)(E_:List (N×N)):Prop where
 sets:XK wr G_ n K gs (λ_=>K) Ws
 wd:XQ Ws
 fr:U8 w2 wr n gs
 has:∀b,b<n->∀v,Xh (Ws b) v=So↔(b,v)∈E_
def O0(c wr:Ub)(d n K:N)(b:Wk)(e:List (N×N)):Prop:=∃a,PF c wr d n K b a e
theorem PF.below{wr:Ub}{b:List (N×N)}(h:PF w wr n m k f M b)(a:Sw (Z wr.1) wr v):PF w v n m k f M b:=⟨h.1.keep a,h.2,h.3.below a,h.4⟩
theorem O0.below{wr:Ub}{c:List (N×N)}(h:O0 w wr n m k f c)(b:Sw (Z wr.1) wr v):O0 w v n m k f c:=by
 let⟨a,h⟩:=h;exact⟨a,h.below b⟩
theorem PF.add{wr:Ub}{l:List (N×N)}(h:PF w wr n m k f M l)(c:B<m)(d:wr.grownBy v (S<|f B))(j:Cp v (f B) k k (E2 (M B) [g])):PF w v n m k f (λi=>if i=B then E2 (M B) [g]else M i) (l++[(B,g)]):=by
 refine⟨h.1.wrote c d j,λi=>?_,h.3.grown d c,λb a x=>?_⟩
 .by_cases e:i=B;·simp only[aU e];exact Zs _<|h.2 B
  simp only[aM e];exact h.2 i
 by_cases e:b=B
 .subst e;simp only[gG,bU,cS,jC,true_and];rw[YR,dI,bD,cS,h.4 b a x];exact or_comm
 simp only[aM e,bU,cS,jC];rw[h.4 b a x];exact⟨bC,λh=>h.elim id λh=>Sz h.1 e⟩
theorem D6{xs:Wi}(h:n<J xs):Nr xs (n+1)=Nr xs n++Og xs n xs[n].1:=by
 unfold Nr;rw[dN,eZ];simp[PW,h]
theorem DL{xs:Wi}{t:N}{a:Za}(h:n<J a):Og xs t (a.take<|n+1)=Og xs t (a.take n)++(XX xs (J xs) t).zip (X9 a[n].2):=by
 unfold Og;rw[X7 h,eZ];simp
theorem A6(c:N)(ha:Q (Xp w k B p x))(t:Q (m=J x))(hB:B<=Z w.1)(P:Q (Jy n x)):
 Sk prog 115 #[Sa #[H n,X p m c]] w λh w'=>∃L f z,h=Rt (Hl L m m)/\Z w.1<=L/\Sw (Z w.1) w w'/\XK w' L m ((n+63)/64) f (λ_=>(n+63)/64) z/\(∀i,i<m->Z w.1<=f i)/\XQ z/\∀T,T<m->∀ab,Xh (z T) ab=So↔(T,ab)∈Nr x m:=by
 have hn:m<=1000:=oP t.o P.1.2;have hV:=P.2;have aj:=Y λW_=>Ti m n W_ hn O;have ar:=Y (λW_ (d:Sw (Z w.1) w W_)=>KF (n:I) c (Y<|ha.keep (d.mono hB)) t O (oN d.4) (Y<|by rw[t.o];exact P.1.4));have hK:(n+63)/64<=32:=O;have cl:n<=64*((n+63)/64):=O;generalize (n+63)/64=K at*
 go_in
 go_wp2_with fail
 refine(aj _).mono ?_;rintro h S_⟨L,f,rfl,hG,O_,Q_,a7⟩;have ad:Q (Sw (Z w.1) w<|D w (Sc #[H n,X p m c] 40)):=Y<|Xb Rf _;have q0:=G (O_.cell (p:=A (Z w.1) 0) (by show Z w.1<_;simp)) (by simp[go_sem]:(w.alloc<|.cells #[H n,X p m c] 40).cell? (A w.heap.size 0)=S (H n));have q1:=G (O_.cell (p:=A (Z w.1) 1) (by show Z w.1<_;simp)) (by simp[go_sem]:(w.alloc<|.cells #[H n,X p m c] 40).cell? (A w.heap.size 1)=S (X p m c));have M:=Y<|Xg ad O_;have az:=Y Q_;have cj:Z w.1<L:=by simp at hG;omega
 have v:Q (∀i,i<m->Z w.1<f i/\f i<Z S_.1):=Y (λi g=>⟨by have:=a7 i g;simp at this;omega,(Q_.2 i g).lt⟩);have ck:=Q_.1.lt;have ct:=M.4;have cg:Z w.1<Z S_.1:=O;have al:=Y<|ar.o S_ M;clear O_ Q_ a7 hG aj ar ad;go_wp2_with fail
 refine al.mono ?_;rintro h r⟨ci,rfl,V,bd⟩;have u:=Y<|Xg M V;have bx:=Y bd.ints;have bo:Q (O0 r r L m K f []):=Y ⟨_,az.keep V,λ_=>λ_=>vY,U8.refl _ _ _,λT _ ab=>by simp[Z3]⟩;have cx:=oB V q1 cg;have cv:=V.4;clear V bd al az q0 q1 M;have bl:=Y<|ha.keep (u.mono hB);go_wp2
 go_loopw [22] (λi wr=>∃a:N,a<=m/\i=H a/\Q (O0 r wr L m K f<|Nr x a)) λi _=>m-(intOf i).toNat
 case atStart=>exact⟨0,aN,R,bo⟩
 obtain⟨a,hk,rfl,b⟩:=hrel;by_cases cd:a<m
 .have P_:a<J x:=oN t.o;obtain⟨T,cw,rfl,a5,hc⟩:=bl a P_;have l:=b.elim λ_ U_=>U_.3;have s:Q (YA k B r wr):=Y (λi W F_=>l.5 i O λj C h=>by have:=v j C;omega);let⟨pa,pc,ia,ic,e0,e1,⟨e2,e3,e4,e5⟩,bb,_⟩:=hc.keepS s<|s T a5.1 a5.2;have aq:=Y bb;have br:=Y<|D6 (xs:=x) P_;have bt:=Y<|P.9 a P_;have ao:=Y (K9 (λch t L_ ht=>(P.1.3 ch t L_ ht).1) a);have I_:=(P.10 x[a] (aH P_)).2;clear hc bb l;generalize x[a]=F at*;go_wp2_with fail
  have bp:Q (O0 r (D wr<|.cells #[X pa (J F.1) pc,X ia (J F.2) ic,H F.3.1,H F.3.a,H F.3.3,H F.3.4] 71) L m K f (Nr x a)):=Y<|b.below (Xb Rf _);have bv:=Y (aq.keepS λi W F_=>(s i W F_).symm);clear aq s e0 e1 e2 e3 e4 e5 b;generalize wr=wo at*
  go_loopw [30] (λi wr=>∃j:N,j<=J F.1/\i=H j/\Q (O0 r wr L m K f<|Nr x a++Og x a (F.1.take j))) λi _=>J F.1-(intOf i).toNat
  case atStart=>exact⟨0,aN,R,Y<|by rw[show Nr x a++Og x a (F.1.take 0)=Nr x a by simp[Og]];exact bp⟩
  obtain⟨j,C,rfl,b⟩:=hrel;by_cases Y_:j<J F.1
  .have l:=b.elim λ_ U_=>U_.3;have s:Q (YA k B r wr):=Y (λi W F_=>l.5 i O λj C h=>by have:=v j C;omega);obtain⟨b2,o2,rfl,cn,ap,cp,f0,f1,a2⟩:=(bv.keepS s) j Y_;have bm:=Y (a2.keepS λi W F_=>(s i W F_).symm);have b1:=Y<|DL (xs:=x) (t:=a) Y_;let⟨a0,a3⟩:=bt F.1[j] (aH Y_);have bn:=Y a3;clear l a2 a3;generalize F.1[j]=e at*;have cr:J (XX x (J x) a)<=m:=oP (tR (xs:=x) (n:=J x) (b:=a)) t.o;have a1:J e.2=J (XX x (J x) a):=by rw[a0,ao.o];simp[Xi]
   have ac:=Y a1;have cm:J e.2<=1000:=O;clear a0 a1;go_wp2_with fail
   have bq:Q (O0 r (D wr<|.cells #[H e.1,X ap (J e.2) cp] 73) L m K f (Nr x a++Og x a (F.1.take j))):=Y<|b.below (Xb Rf _);clear b f0 f1 s;generalize wr=cz at*
   go_loopw [37] (λi wr=>∃q:N,q<=J e.2/\i=H q/\Q (O0 r wr L m K f<|Nr x a++Og x a (F.1.take j)++((XX x (J x) a).zip (X9 e.2)).take q)) λi _=>J e.2-(intOf i).toNat
   case atStart=>exact⟨0,aN,R,Y<|by rw[lK,fF];exact bq⟩
   obtain⟨q,hq,rfl,b⟩:=hrel;by_cases a9:q<J e.2
   .let⟨z,d⟩:=b.o;have l:=d.3;obtain⟨b3,o3,rfl,co,r0⟩:=bm q a9;have bh:=G (Xc (l.5 b3 O λi g h=>by have:=v i g;omega)) r0;let⟨b4,o4,e4,b8,a4,c4,r1,V_⟩:=bx a (by simpa using cd);injection e4 with e4;injection e4 with e5 e6;subst e5;subst e6;have R_:=G (Xc (l.5 (Z S_.1+1) b8.2 λi g h=>by have:=v i g;omega)) r1;simp only[cM,dW,ao.o]at R_ V_;have Z_:q<J (XX x (J x) a):=oN ac.o;let⟨b5,o5,e7,ca,r2⟩:=V_ q (by simpa [Xi]using Z_);subst e7;have bi:=G (Xc (l.5 b5 ca.2 λi g h=>by have:=v i g;omega)) r2;have bc:(Xi<|XX x (J x) a)[q]'(by simpa [Xi]using Z_)=(((XX x (J x) a)[q]:N):I):=by simp[Xi]
    rw[bc]at bi;have I_:(XX x (J x) a)[q]<m:=oP ((Uf.1<|aH Z_).1) t.o
    have aa:=bn e.2[q] (aH a9);have y:Q (((XX x (J x) a).zip (X9 e.2)).take (q+1)=((XX x (J x) a).zip (X9 e.2)).take q++[((XX x (J x) a)[q],e.2[q].toNat)]):=Y (by
     rw[X7<|by simp[X9];omega];simp[X9])
    let⟨o,bf⟩:=bX aa.1;rw[bf]at bh aa y;simp only[dM]at y;have a8:J (Xi<|XX x (J x) a)=J (XX x (J x) a):=by simp[Xi]
    rw[a8,aV]at R_;have ba:=ac.o;rw[<-ba]at R_;have N_:=Y d;clear d l r0 r1 r2 V_ bc bf b ba a8;generalize (XX x (J x) a)[q]=J_ at*;have b7:=N_.1.1.cell I_;have cs:o<n:=O;clear aa;go_wp2_with fail
    have T_:=Y<|N_.below (Xb Rf (Sc #[H o] 119));have cq:=(N_.1.2 J_ I_).lt;have cf:Z wr.1+1<=Z (D wr<|.cells #[H o] 119).1:=sP;have af:Q (Xf (D wr<|.cells #[H o] 119) (Z wr.1) (Z wr.1+1) (S ⟨Z wr.1,0,U⟩) ([o].map Int.ofNat)):=Y<|UY wr o;have b0:∀L_∈[o],L_<64*K:=λL_ ht=>by
     have h:L_=o:=by simpa using ht
     omega
    refine(ZG (f J_) K K 1 1 (z J_) _ [o] (Z wr.1) (Z wr.1+1) _ af (Y R) O (Y b0) O (Y<|N_.2 J_) (Y<|T_.1.2 J_ I_) cf O).mono ?_;rintro h w5⟨rfl,a6,be⟩;have b6:=Y<|T_.add I_ a6 be;clear a6 be T_ af b7 bh R_ bi;go_wp2;exact⟨⟨q+1,O,gM,Y ⟨_,by rw[y.o,<-cK];exact b6⟩⟩,SA⟩
   have ce:q=J e.2:=O;have y:Q (((XX x (J x) a).zip (X9 e.2)).take q=(XX x (J x) a).zip (X9 e.2)):=Y (aW<|by simp[X9];omega);rw[y.o]at b;clear ce;go_wp2;exact⟨⟨j+1,O,gM,Y<|by rw[b1.o,<-cK];exact b⟩,SA⟩
  have cb:j=J F.1:=O;have y:Q (F.1.take j=F.1):=Y<|aW O;rw[y.o]at b;clear cb;go_wp2;exact⟨⟨a+1,O,gM,Y<|by rw[br.o];exact b⟩,SA⟩
 have cc:a=m:=O;subst cc;go_wp2;go_ret;let⟨z,d⟩:=b.o;refine⟨L,f,z,R,O,⟨G d.3.1 u.1,G d.3.2 u.2,G d.3.3 u.3,aJ u.4 d.3.4,λi g=>G (d.3.5 i (oN u.4) λj C h=>by have:=v j C;omega) (u.5 i g)⟩,d.1,λi g=>by have:=v i g;omega,d.2,d.4⟩
def jm(W:Wk)(x:N):Wk:=λi=>if i=x/64 then W i&&&(18446744073709551615-2^(x%64))else W i
theorem uS(h:n<64):2^n<18446744073709551616:=aX (lB vY h) vY
theorem EJ:Xh (jm f n) m=(decide (m≠n)&&Xh f m):=by
 unfold Xh jm;by_cases e:m/64=n/64
 .rw[aU e,jW,qA (uS<|dS _ vY) (dS _ vY),nE];by_cases h:n%64=m%64
  .have:m=n:=O;simp[this]
  have:m≠n:=λq=>h (by rw[q]);simp[h,this]
 rw[aM e];have:m≠n:=λq=>e (by rw[q]);simp[this]
theorem FN(h:XA f)(x:N):XA (jm f x):=λi=>by
 unfold jm;split;·exact iC jB<|h i
 exact h i
def Js(W:Wk)(a:Wa):Wk:=a.foldl jm W
theorem Ch{W:Wk}(h:n<J s):Js W (s.take<|n+1)=jm (Js W<|s.take n) s[n]:=by
 unfold Js;rw[bN h,dT];rfl
theorem JX:∀(a:Wa){W:Wk},XA W->XA (Js W a)
 |[],_,h=>h
 |t::a,_,h=>JX a<|FN h t
theorem Kt:∀(a:Wa)(W:Wk)(y:N),Xh (Js W a) y=(decide (y∉a)&&Xh W y)
 |[],_,_=>by simp[Js]
 |t::a,W,y=>by
  have h:=Kt a (jm W t) y;have e:Js W (t::a)=Js (jm W t) a:=R;rw[e,h,EJ];by_cases b:y=t<;>by_cases c:y∈a<;>simp[b,c]
theorem Bn(c:m<64)(b:n<18446744073709551616):bits .andNot .u64 (n:I) (IntKind.u64.wrap<|2^m)=((n&&&(18446744073709551615-2^m):N):I):=by
 have a:=uS c;have e:IntKind.u64.wrap (2^m)=((2^m:N):I):=by
  rw[iV];have:((2^m:N):I)=(2:I)^m:=sP;rw[<-this];exact mB (kF _) (Int.ofNat_lt.2 a)
 rw[e,kM _ _ b a]
theorem JL(c:N)(o:Uy)(L:N)(w:Ub)(ha:Q (Xf w L g o<|s.map Int.ofNat))(y:Q (B=J s))(hn:B<=4000)(M:Q (∀t∈s,t<64*m))(hK:m<=1000)(F:Q (XA f))(x:Q (Cp w n m k f))(V_:g<=Z w.1)(Z_:¬(L<=n/\n<g)):
 Sk prog 119 #[Sa #[Hl n m k],X o B c] w λe z=>e=Rt (St #[])/\w.grownBy z (S n)/\Cp z n m k (Js f s):=by
 go_in
 go_wp2;have Y_:=x.lt
 go_loopw [8] (λu wr=>∃q:N,q<=B/\u=H q/\Q (w.grownBy wr<|some n)/\E wr (A (Z w.1) 0)=S (Hl n m k)/\Q (Cp wr n m k<|Js f (s.take q))) λu _=>B-(intOf u).toNat
 case atStart=>exact⟨0,aN,R,Y<|bW _ _ _,sP,Y<|x.alloc _⟩
 obtain⟨q,hq,rfl,d,K,a⟩:=hrel;by_cases aa:q<B
 .have l:q<J s:=oN y.o
  obtain⟨p,P,rfl,W_,r⟩:=ha q (by simpa using l);have j:=G (Xc<|d.5 p O λe=>by injection e with e;omega) r;rw[cM]at j;have ad:=M _<|aH l;have T:=Y<|Ch (W:=f) l;have V:=Y<|JX (s.take q) F;generalize s[q]=t at*;have T_:=rh t;have U_:=rg t;have Q_:Cl wr p (P+q) (H t):=j;generalize Js f (s.take q)=h at*;have v:t/64<m:=O;have W:t%64<64:=dS _ vY;have R_:=a.cell v;have S_:=a.frozen;have C:=Y<|Bn W (V<|t/64);have A_:Q (∀i,(if i=t/64 then h (t/64)&&&(18446744073709551615-2^(t%64))else h i)=Js f (s.take<|q+1) i):=Y (λi=>by
   rw[T.o];unfold jm;by_cases e:i=t/64;·rw[aU e,aU e,e]
   rw[aM e,aM e])
  generalize X_:t/64=b at*;generalize ab:t%64=P_ at*;go_wp2;go_region;go_wp2;rw[C.o];have N_:wr.grownBy (Se wr (A n b) (Si .u64 ((h b&&&(18446744073709551615-2^P_):N):I))).drew (S n):=⟨R,R,R,by simp[World.setCell,World.drew],λaj _ I_=>Below.heap_setCell _ _ _ _ λe=>I_<|by rw[e]⟩;refine⟨⟨q+1,O,gM,Y (d.andThen N_ λaf H_=>by cases H_;exact aZ R),?_,Y ?_⟩,SA⟩;·exact G (bH wr (A n b) (A (Z w.1) 0) _ (by show n≠Z w.1;omega)) K
  refine Cp.drew ((a.set b _ v).congr λi _=>?_);rw[<-A_.o i]
 have ac:q=B:=O;have F_:Q (s.take q=s):=Y<|aW (oN y.o);rw[F_.o]at a;go_wp2
 go_end0
 exact⟨R,d,a⟩
theorem BV(y:Q (Cp w n m k f))(hK:m<=1000):
 Sk prog 158 #[Hl n m k] w λe C=>∃b d,e=Rt (Hl b m d)/\Z w.1<=b/\Sw (Z w.1) w C/\Cp C b m d f:=by
 let⟨L,F,P,T,K⟩:=fX Qg;have O_:∀(w:Ub)(g:Uy)(o c p h:N),(binOp .eql 108 (X g o c) (X U p h)).run prog w=.ok (Sb g.isNone) w:=λw g o c p h=>Lib.run_eql_slice_nil w _ _ g o c p h underlying108;have N_:=y.lt;have q:Q (Sx (D w<|.cells #[] 203) (Z w.1) 203 1 (Hl (Z w.1) 0 0) 0 []):=Y<|eI (base:=Z w.1) (e:=203) (size:=1) w #[] 0 sP sP R
 go_in
 go_wp2_with (at_builtin;refine fT _ R _ _ 108 R (Z w.1) 203 L (Si .u64 0) 1 8 underlying108 F P T K R vY _ _ _ R q (A n 0) m k ((Rg m).map λi=>Si .u64 (f i:I)) R ?c0 ?c1 ?c2 ?c3 ?c4 ?c5 ?_)
 case c0=>simp
 case c1=>
  intro l M a;rw[dX]at a;by_cases e:l<m
  .rw[iQ e]at a;simp at a;subst a;have:=(y.alloc<|.cells #[] 203).cell e;have e2:((A n 0):Addr).add l=(A n l):=by rw[mK];simp
   rw[e2];exact this
  rw[dK<|by simp;omega]at a;cases a
 case c2=>
  intro M V;obtain⟨i,_,rfl⟩:=aY.1 V;rfl
 case c3=>unfold maxLen;omega
 case c4=>omega
 case c5=>simp
 intro v1 B u s t;have z:v1≠Hq:=by simpa using t
 have r:=Xy (Xb (Below.refl (Z w.1) w) _) s q aA sP;have v:Sx B (Z w.1) 203 1 v1 (J ((Rg m).map f)) (((Rg m).map f).map λx:N=>Si .u64 (x:I)):=by
  have e:(((Rg m).map f).map λx:N=>Si .u64 (x:I))=(Rg m).map λi=>Si .u64 (f i:I):=sP;rw[e];simpa using u
 obtain⟨b,d,rfl,W,j⟩:=Cp.of_own v z;have C_:=Y r;have D_:Q (Cp B b m d f):=Y (by
  have e:J ((Rg m).map f)=m:=sP;rw[e]at j;exact j.congr λi F_=>by simp[F_])
 have e:J ((Rg m).map f)=m:=sP;rw[e];go_wp2;go_ret;exact⟨_,_,R,W,C_,D_⟩
theorem Kk(g K C:N)(W:Wk)(w:Ub)(q:Q (Cp w g K C W))(hK:K<=1000):
 Sk prog 117 #[Sa #[Hl g K C]] w λe j=>∃b c,e=Rt (Sa #[Hl b K c])/\Z w.1<=b/\Sw (Z w.1) w j/\Cp j b K c W:=by
 go_in
 go_wp2_with fail
 have m:Q (Sw (Z w.1) w<|D (D w<|.cells #[Hl g K C] 113) (Sc #[Hq] 113)):=Y<|Xb (Xb Rf _) _;have v:Z (D (D w<|.cells #[Hl g K C] 113) (Sc #[Hq] 113)).1=Z w.1+2:=sP;have r:=(q.alloc<|.cells #[Hl g K C] 113).alloc (Sc #[Hq] 113);have p:(λk:Ub=>E k (A (Z w.1+1) 0)=S Hq/\k.frozen? (A (Z w.1+1) 0)=Sn) (D (D w<|.cells #[Hl g K C] 113) (Sc #[Hq] 113)):=⟨SC,SC⟩;generalize D (D w _) _=t at*;let⟨f,h⟩:=p;refine(BV (Y r) hK).mono ?_;rintro e s⟨d,l,rfl,u,a,i⟩;have f1:=G (XU a O) f;have f2:s.frozen? (A (Z w.1+1) 0)=Sn:=by rw[bJ (w:=t) (a:=(A (Z w.1+1) 0)) (a.5 _<|by show Z w.1+1<_;omega)];exact h
 have n:=Y<|Xg m a;have o:=Y i;go_wp2_with fail
 refine cC (v:=Sa #[Hl d K l]) (by simp[results,results117,go_sem,f1]) R ?_;exact⟨_,_,R,O,n.setCell (by show Z w.1<=Z w.1+1;omega) _,o.setOther (by show d≠Z w.1+1;omega) _⟩
theorem Tg(e d o:N)(r:N)(v:Uj)(W:Ub)(K:W.rowIs n 2 k h)(P:m<=k)(L:v.oneCell'=So)(q:g=Nat.min B (k-m))(C:∀j,j<g->E W (A d<|o+j)=S v):
 ∃b,Sem.run prog (Builtin.copy_ #[35,35] 3 #[Hm n m (k-m) e,Hm d o B r]) W=.ok (goInt g) b/\W.grownBy b (S n)/\b.rowIs n 2 k (λi=>if m<=i/\i<m+g then v else h i):=by
 let⟨c,l,w,x⟩:=K;have T:g<=k-m:=q▸kQ _ _
 have f:=run_copy_row (P:=prog) W 35 35 3 2 n m (k-m) e (A d o) B r c 2 (List.replicate g v) underlying35 vZ l (kN▸q) (λj F a=>by
  rw[mI]at a;split at a
  .rename_i z;injection a with a;rw[<-a];rw[mK];exact C j z
  cases a) (by rw[kN];omega) λF M=>(List.eq_of_mem_replicate M)▸L
 rw[kN]at f;refine⟨_,f,⟨R,R,R,sP,λj _ a=>setRow_other _ _ _ _ λu=>a<|by rw[u]⟩,⟨_,setRow_heap _ _ _ _ _ _ l,?_,λi y=>?_⟩⟩;·simp[w];omega
 have p:=x i y;simp only[List.getElem?_toArray];by_cases s:i<m
 .rw[aM O,dL SB,dL SB,fH s];simpa using p
 by_cases t:i<m+g
 .rw[aU ⟨O,t⟩,dL SB,eV<|by simp;omega];simp[mI];omega
 rw[aM O,eV SB,jA];have:m+g+(i-J (List.take m c.1++List.replicate g v))=i:=by simp;omega
 rw[this];simpa using p
theorem CK(a:n<=2000):bits .and .u64 (n:I) 4294967295=(n:I):=by
 have h:n&&&4294967295=n:=by
  have:=kO n 32;rw[show(2^32-1:N)=4294967295 from R]at this;rw[this];omega
 rw[show(4294967295:I)=((4294967295:N):I)from R,jH _ _ O vY,h]
theorem CC(w:Ub)(a:n<=2000):
 Sk prog 201 #[Si .u64 1,Si .u64 n] w λe b=>e=Rt (St #[Si .u64 0,Si .u64 n])/\b=w:=by
 have d:bits .and .u64 1 4294967295=1:=vY;have c:bits .and .u64 0 4294967295=0:=vY;have f:=CK a;have g:(n:I)/4294967296=0:=O;have i:IntKind.u64.wrap (n:I)=n:=by simp[IntKind.wrap,IntKind.bits,IntKind.signed];omega
 have h:IntKind.u64.wrap 0=0:=vY
 go_in
 go_wp2_with fail
 refine cC (v:=St #[Si .u64 0,Si .u64 n]) (by simp[results,results201,go_sem]) R ⟨R,R⟩
theorem EW(w:Ub)(b:n<=2000):
 Sk prog 173 #[Si .u64 1,Si .u64 n] w λe c=>e=Rt (St #[Si .u64 0,Si .u64 n])/\c=w:=by
 have a:=Y λW=>CC W b
 go_in
 go_wp2_with fail
 refine(a _).mono ?_;rintro e d⟨rfl,rfl⟩;go_wp2_with fail
 refine cC (v:=St #[Si .u64 0,Si .u64 n]) (by simp[results,results173,go_sem]) R ⟨R,R⟩
theorem vb(g n:N)(w:Ub)(T:n<=2000)(x:E w (A g 0)=S (H (-1)))(M:g<Z w.1):
 Sk prog 135 #[Hl g 1 1,H n] w λe F=>∃h,e=Rt (Hl h n n)/\Z w.1<=h/\Sw (Z w.1) w F/\F.rowIs h 2 n (λ_=>H (-1)):=by
 have V:=Y λW=>EW W T;have Y_:=fM (P:=prog) 35 2 (H 0) 8 underlying35 RH R S6 S6 n O O;let⟨a,d⟩:∃a,a=Nat.min 1 (n-0):=⟨_,R⟩;have R_:a<=1:=d▸mQ _ _;have K:a<=n:=by have:=kQ 1<|n-0;rw[d];omega
 have B:0<n->1<=a:=λt=>d▸Nat.le_min.2 ⟨aA,O⟩
 let⟨K_,l,y,C⟩:=Tg n g 0 1 (H (-1)) (D w<|.cells (madeCells #[H 0] n) 2) (dG w (H 0) n 2) aN R d (λo O_=>by
  have:o=0:=O;subst this;exact G (bP _ _ _ M) x)
 rw[Nat.sub_zero]at l;have s:=Y C;have q:=Y y;clear C y d
 go_in
 go_wp2_with fail
 refine(V _).mono ?_;rintro e T_⟨rfl,L⟩;rw[L];clear L T_;go_wp2_with fail
 generalize decide ((n:I)<0)=U_;generalize decide (9223372036854775807<(n:I))=V_;have r:Q (K_.rowIs (Z w.1) 2 n λi=>H<|if i<a then -1 else 0):=Y (s.congr (λi _=>by by_cases t:i<a<;>simp[t]));have p:=Y ((Xb (Below.refl _ w) _).grown q sP λk e=>by cases e;exact aA);clear s q l x
 go_loopw [8] (λu wr=>∃k:N,(0<n->1<=k)/\k<=n/\u=H k/\Q (Sw (Z w.1) w wr)/\Q (wr.rowIs (Z w.1) 2 n λi=>H<|if i<k then -1 else 0)) λu _=>n-(intOf u).toNat
 case atStart=>exact⟨a,B,K,R,p,r⟩
 clear p r;obtain⟨k,P_,Q_,rfl,f,b⟩:=hrel;by_cases X_:k<n
 .let⟨m,c⟩:∃m,m=Nat.min k (n-k):=⟨_,R⟩;have R_:m<=k:=c▸mQ _ _;have K:m<=n-k:=c▸kQ _ _;have B:0<m:=c▸Nat.lt_min.2 ⟨P_ O,O⟩
  let⟨L_,l,z,P⟩:=Tg (n-k) (Z w.1) 0 n (H (-1)) wr.drew b Q_ R c (λo O_=>by
   rw[aV];have:=b.cell (i:=o) O;rw[aU O]at this;exact this)
  have J_:Q (L_.rowIs (Z w.1) 2 n λi=>H<|if i<k+m then -1 else 0):=Y (P.congr (λi _=>by
   by_cases j:i<k
   .simp[j];omega
   by_cases v:i<k+m;·simp[j,v]
   simp[j,v]))
  have G_:=Y (f.drew.grown z f.4 λk e=>by cases e;exact aA);clear f b P z c;go_wp2;go_region;go_wp2;exact⟨⟨k+m,λ_=>O,O,gM,G_,J_⟩,SA⟩
 have:k=n:=O;subst this;have H_:Q (wr.rowIs (Z w.1) 2 k λ_=>H (-1)):=Y (b.congr λi N_=>by simp[N_]);clear b;go_wp2;go_ret;exact⟨_,R,aA,f,H_⟩
theorem BK(b:N)(w:Ub)(f:n<=1000)(_h0:0<n)(d:E w (A b 0)=S (H (-1)))(c:b<Z w.1):
 Sk prog 135 #[Hl b 1 1,H n] w λe a=>∃g,e=Rt (Hl g n n)/\Z w.1<=g/\Sw (Z w.1) w a/\a.rowIs g 2 n (λ_=>H (-1)) :=
 vb b n w O d c
section
attribute [local go_sem] Oper.semAt_some
def O7(a:Wa):List Deferred:=a.map λb=>{ target:=.collected b,args:=#[] }
structure ZJ(W:Ub)(B:N)(ds:Wa):Prop where
 nd:ds.Nodup
 ge:∀D_∈ds,B<=D_
 obj:∀D_∈ds,W.1[D_]?=S (.deferred (S []))
theorem U4{F:Fence}{n:N}{P:Yh}{d:Func}{tmps:Zh}{o:Ending->Vy}{B:N}:∀(b:Wa)(W:Ub),ZJ W B b->B<=Z W.1->(∀a,Sw B W a->∃v,(results d tmps).run P a=.ok v a/\o (Rt v) a)->LeavesInM F n P d tmps o (O7 b) .returning W
 |[],W,_,_,h=>h W<|Rf
 |l::b,W,hm,hB,h=>by
  refine⟨sP,bC ⟨l,_,R,run_takeDeferred<|hm.3 l cI,?_⟩⟩;have g:=hm.2 l cI;have f:Sw B W (W.putObj l<|.deferred U):=(Below.refl B W).grown (grownBy_putObj' W l _) hB (λk e=>by cases e;exact g);refine U4 b _ ⟨(fL.1 hm.1).2,λk c=>hm.2 k<|cN _ c,λk c=>?_⟩ (aJ hB f.4) λa k=>h a<|f.trans k;exact G (World.putObj_heap_other λe=>(fL.1 hm.1).1 (by rw[<-e];exact c)) (hm.3 k<|cN _ c)
theorem uR{wr:Ub}(h:ZJ wr n s)(f:Z wr.1<=m)(hK:w.1[m]?=S (.deferred (S [])))(d:∀a,a<Z wr.1->a≠k->w.1[a]?=wr.1[a]?)(e:k<n/\n<=Z wr.1):ZJ w n (m::s):=by
 have c:=λa b=>(aS.1<|h.3 a b).1;refine⟨fL.2 ⟨λa=>by have:=c m a;omega,h.1⟩,λa b=>?_,λa b=>?_⟩
 .rcases cH.1 b with rfl|b;·omega
  exact h.2 a b
 obtain rfl|b:=cH.1 b;·exact hK
 exact G (d a (c a b) (oN<|h.2 a b)) (h.3 a b)
theorem Bk(L:N){c0:N}{aq:List Wa}{B2:N}(ci:Q (XR w j B2 p<|aq.map Xi))(K:Q (n=J aq))(a8:Q (Xf w g i (S ⟨m,k,U⟩) (Xi s)))(h0:Q (B=J s))(hn:n<=1000)(aa:0<n)(dl:B<=1000)(dn:0<B)(en:B<=c0)(b0:i<=Z w.1)(dc:B2<=Z w.1)(N_:Q (∀M_∈s,M_<n))(ch:Q (∀U_∈aq,J U_<=2000/\∀ed∈U_,ed<n)):
 Sk prog 174 #[X p n L,Hm m k B c0] w λe w'=>∃a3 l,e=Rt (Hl a3 n n)/\Z w.1<=a3/\Sw (Z w.1) w w'/\w'.rowIs a3 2 n (λc=>H<|VB l s B c)/\∀M_,M_<n->∀x,x<n->(Xh (l M_) x=So↔Sp (Nt n) (N7 n) (·∈s) (λM_=>aq.getD M_ []) M_ x):=by
 have bb:=Y λW (hb:Sw (Z w.1) w W)=>A5 p L c0 j B2 (Y<|ci.keepS λb _ S_=>(hb.mono dc).5 b S_) K (Y<|a8.keep (hb.mono b0)) h0 hn aa dl dn (oN hb.4) (oN hb.4) N_ ch;have ei:(n+63)/64<=16:=O;have ej:n<=64*((n+63)/64):=O;generalize (n+63)/64=a2 at*;refine(bM (n:=4)).1 ?_;refine callsIn_of_wp_marks func174 R trivial ?_ R;simp only[ntmps174,xY,Nat.reduceAdd,Nat.reduceSub];gi_wp2;refine⟨trivial,(bM.2<|bb w Rf).mono ?_⟩;rintro e r⟨Q_,gs,l,rfl,a5,ap,cj,cd⟩;have bc:=Y a5;have bo:=Y ap;have da:=Y cj;have cz:=Y cd;have eg:=ap.1.lt;have cx:=Y λa hi=>(ap.2 a hi).lt;have ez:=a5.4;clear a5 ap cj cd bb;gi_wp2;refine⟨trivial,(bM.2<|BK (Z r.1+1) (D (D r<|.cells #[Hl Q_ n n] 317) (Sc #[H (-1)] 2)) hn aa SC sP).mono ?_⟩;rintro e q⟨d,rfl,ca,Y_,a9⟩;have bd:=Y<|Xg (Xb (Xb bc _) _) Y_;have e0:Z r.1+2<=Z q.1:=by have:=Y_.4;simp at this;omega
 have et:Z r.1+2<=d:=by simp at ca;omega
 have eu:=a9.lt;have bp:=Y<|(bo.keep<|Xb (Xb Rf _) _).keep Y_;have bt:Cl q (Z r.1) 0 (Hl Q_ n n):=G (Y_.cell (p:=A (Z r.1) 0) (by show Z r.1<_;simp;omega)) SC;have bl:=Y a9;clear Y_ a9 ca bc bo;gi_wp2;have az:Q (Sw (Z w.1) w<|D q (Sc #[Hl d n n] 35)):=Y<|Xb bd _;have bm:Q ((D q<|.cells #[Hl d n n] 35).rowIs d 2 n λc=>H<|VB l s 0 c):=Y<|bl.alloc _;have c8:=Y<|bp.keep (Xb Rf (Sc #[Hl d n n] 35));have bv:E (D q<|.cells #[Hl d n n] 35) (A (Z r.1) 0)=S (Hl Q_ n n):=G (bP _ _ _<|by show Z r.1<_;omega) bt;have b3:E (D q<|.cells #[Hl d n n] 35) (A (Z q.1) 0)=S (Hl d n n):=by simp[go_sem]
 have eb:Z q.1<Z (D q<|.cells #[Hl d n n] 35).1:=sP;clear bd bl bp bt;generalize D q _=P_ at*;have ct:=Y bv;have bf:=Y b3;have bi:=Y<|a8.keep (az.mono b0);have cl:=az.4;clear bv b3 a8 ci K ch;refine nH (λV wr=>∃(a:N)(R_:Wa)(u7 u8 u21 u22 cn co cp cq cr cs u42:Uj),a<=B/\V=⟨#[X p n L,Hm m k B c0,Su,Su,Hq,Hn (Z r.1),Hn (Z q.1),u7,u8,Su,Su,X p n L,Hm m k B c0,Hl Q_ n n,Hl (Z r.1+1) 1 1,X p n L,H n,Hl d n n,Hm m k B c0,H B,H a,u21,u22,cn,co,cp,cq,cr,cs,Su,Su,Su,Su,Su,Su,Su,Su,Su,Su,Su,Su,Su,u42,Su],O7 R_⟩/\Q (P_.grownBy wr<|some d)/\Q (wr.rowIs d 2 n λc=>H<|VB l s a c)/\Q (ZJ wr (Z P_.1) R_)) (λV _=>B-(intOf<|V.1.getD 20 Su).toNat) ?_ ?_;·exact⟨0,[],_,_,_,_,_,_,_,_,_,_,_,aN,R,Y<|lJ _ _,bm,Y ⟨iU,λ_ F=>(by cases F),λ_ F=>(by cases F)⟩⟩
 rintro V wr⟨a,R_,u7,u8,u21,u22,cn,co,cp,cq,cr,cs,u42,hi,rfl,P,HR,HM⟩;clear bm;by_cases ev:a<B
 .have al:a<J s:=oN h0.o;let⟨t,T,er,em,bq⟩:=bi a (by simpa [Xi]using al);have a6:=N_ _<|aH al;have du:(Xi s)[a]'(by simpa [Xi]using al)=((s[a]:N):I):=by simp[Xi]
  rw[du]at bq;obtain⟨rfl,rfl⟩:t=m/\T=k:=by injection er with er;injection er with e1 e2;exact⟨e1.symm,e2.symm⟩
  have dd:t<Z P_.1:=O;have J_:t≠d:=O;have ep:=G (bZ<|P.5 t dd λe=>J_<|by injection e) bq;have eq:a<=c0:=O;have cc:s.getD a 0=s[a]:=by simp[al]
  have ad:=Y cc;have ea:=P.4;have cb:d<Z P_.1/\Z P_.1<=Z wr.1:=⟨O,ea⟩;have bh:=Y cb;clear cc cb;gi_wp2;refine⟨trivial,(Ba Fence.wide 3 trivial R a c0).mono ?_⟩;rintro e v⟨rfl,ab⟩;rw[aO];have ck:Z v.1=Z wr.1+2:=by rw[ab];simp
  have b8:E v (A (Z wr.1) 0)=S (H ((s[a]:N):I)):=by rw[ab];simp[go_sem]
  have d0:E v (A (Z wr.1+1) 0)=S (Hm t T a c0):=by
   rw[ab];simp[go_sem]
  have o:Sw (Z wr.1) wr v:=by rw[ab];exact Xb (Xb Rf _) _
  clear ab;have a7:∀b,b<Z P_.1->b≠d->v.1[b]?=P_.1[b]?:=λb f J_=>G (o.5 b O) (P.5 b f λe=>J_<|by injection e)
  have dz:∀M,M<a->E v (A t<|T+M)=S (H ((s[M]?.getD 0:N):I)):=λM hj=>by
   let⟨b5,o5,e5,h5,e6⟩:=bi M (by simp[Xi];omega);injection e5 with e5;injection e5 with e1 e2;subst e1;subst e2;have dj:M<J s:=O;have dw:(Xi s)[M]'(by simp[Xi];omega)=((s[M]:N):I):=by simp[Xi]
   rw[dw]at e6;rw[aC dj,gR];exact G (bZ<|a7 t O O) e6
  have ce:=HR.of_block<|o.5 d O;have bn:=Y ce;have c9:Q (Ye v Q_ n a2 gs l):=Y ((c8.grown P O λM hj e=>by have:=cx M hj;omega).keep o);have bx:=G (bZ<|a7 (Z r.1) O O) ct;have b4:=G (bZ<|a7 (Z q.1) O O) bf;have cw:=Y b8;have cv:=Y bx;have c6:=Y b4;have ee:=Y ck;have e7:Z wr.1+2<=Z v.1:=O;clear ck b8 bx b4 ce;gi_wp2
  refine wpIn_rangeFunc_ownF (F:=Fence.wide) (n:=4) R vY (gf:=226) (lb:=#[Hn<|Z wr.1+1]) R trivial (enters_of func226 vZ R) (AA Fence.wide 3 trivial R vY N_ aa O O O d0 dz) belowK_t (belowK_b<|aA) Rf (λ_=>R)
   (λV_ W=>Sw (Z v.1) v W/\∀C∈V_,Xh (l s[a]) C.1.2=So)
   (λc_ V_ W=>c_=.exit 2/\∃ac x,V_=ac++[x]/\(∀C∈ac,Xh (l s[a]) C.1.2=So)/\Xh (l s[a]) x.1.2=Sn/\v.grownBy W (S d)/\W.rowIs d 2 n λc=>H<|if c=s[a]then (x.1.2:I)else VB l s a c)
   (λec W W' row K y O_=>⟨K.1.grown y K.1.4 λb e=>(O_ b e).1,K.2⟩)
   (λc_ ec W W' row K y O_=>by
    let⟨hc,ac,x,e,h1,S_,T_,cg⟩:=K;refine⟨hc,ac,x,e,h1,S_,⟨G y.1 T_.1,G y.2 T_.2,G y.3 T_.3,aJ T_.4 y.4,λb f J_=>G (y.5 b (aX f T_.4) λe=>by have:=(O_ b e.symm).1;omega) (T_.5 b f J_)⟩,cg.of_block (y.5 d cg.lt λe=>by have:=(O_ d e.symm).1;omega)⟩)
   ⟨Rf,λ_ F=>by cases F⟩
   (λx=>⟨#[X p n L,Hm t T B c0,Su,Su,Hq,Hn (Z r.1),Hn (Z q.1),H a,Hn (Z wr.1),Su,H (x.1.2:I),X p n L,Hm t T B c0,Hl Q_ n n,Hl (Z r.1+1) 1 1,X p n L,H n,Hl d n n,Hm t T B c0,H B,H a,Sb So,H a,Ho t<|T+a,H ((s[a]:N):I),Hm t T B c0,H a,Hm t T a c0,.func (.func 226) #[] #[Hn<|Z wr.1+1],H (x.1.1:I),H (x.1.2:I),Su,Su,Su,Su,Su,Su,Su,Su,Su,Su,Su,u42,Su],[]⟩) ?assign ?body ?done ?stop
  case assign=>
   intro U_ x W a2 hK;gi_wp2;exact hK
  case body=>
   rintro U_ V_ x W⟨z,X_⟩ _;have b1:=G (XU z O) cw;have db:=G (XU z O) cv;have b6:=G (XU z O) c6;have a4:=c9.keep z;have df:=a4.1.cell a6;have ey:=x.2;have ba:=Y X_;have h:=Y z;have cf:=bn.of_block<|z.5 d O;have aj:=Y cf;have af:=Y<|Jm (gs s[a]) a2 x.1.2 (l s[a]) W (Y<|da.o s[a]) (Y (a4.2 s[a] a6).to_row) O O;clear X_ z cf a4;cases hh:Xh (l s[a]) x.1.2 with
   |true=>
    have HH:=Y hh;rw[hh]at af;clear hh;gi_wp2;refine⟨trivial,(CallsIn.inRound U_<|bM.2 af).mono ?_⟩;rintro e W5⟨rfl,I_⟩;have u:=Y I_;clear I_;gi_wp2
    exact⟨⟨u.4,λb cm f _=>G (u.5 b (aS.1 f).1) f⟩,u.mono h.4,Xg h u,λC hy=>by
     obtain F|F:=bU.1 hy;·exact ba C F
     have:C=x:=by simpa using F
     rw[this];exact HH⟩
   |false=>
    have HH:=Y hh;rw[hh]at af;clear hh;gi_wp2;refine⟨trivial,(CallsIn.inRound U_<|bM.2 af).mono ?_⟩;rintro e W5⟨rfl,I_⟩;have ef:=oB I_ b1 (by show Z wr.1<_;have:=h.4;omega);have ek:=oB I_ b6 (by show Z q.1<_;have:=h.4;omega);have ao:=aj.of_block<|I_.5 d (oN h.4);have eo:=ao.cell a6;have es:=ao.frozen s[a];have c7:=Y ao;have u:=Y I_;clear I_ ao b1 b6 db df aj;gi_wp2;refine⟨⟨by rw[Xd];exact u.4,λb cm f N_=>?_⟩,R,V_,x,R,ba,HH,?_,?_⟩
    .have dk:=(aS.1 f).1;have h5:=G (u.5 b dk) f;exact(KeepsOthers.setCell W5 _ _).2 b cm h5 N_
    .exact((⟨(Xg h u).1,(Xg h u).2,(Xg h u).3,(Xg h u).4,λb f _=>(Xg h u).5 b f⟩:v.grownBy W5 (S d))).trans ⟨R,R,R,SH,λb _ f=>Below.heap_setCell _ _ _ _ λe=>f<|by rw[e]⟩
    exact TS (C:=Si S6) c7 s[a] (x.1.2:I)
  case done=>
   rintro ar ys W hD rfl⟨z,X_⟩ hK;have Z_:=CR N_ aa (len:=a) O (p:=λV=>!Xh (l<|s.getD a 0) V) (λC hy=>by rw[ad.o,X_ C hy];rfl);have a0:=Y Z_;have h:=Y z;have a1:=Y hK;clear Z_ X_ z hK;gi_wp2;refine⟨⟨a+1,ar::R_,_,_,_,_,_,_,_,_,_,_,_,O,R,Y ?_,Y ?_,Y ?_⟩,SA⟩;·exact(P.trans ⟨o.1,o.2,o.3,o.4,λb f _=>o.5 b f⟩).trans ⟨h.1,h.2,h.3,h.4,λb f _=>h.5 b f⟩
   .exact(bn.of_block<|h.5 d O).congr λc _=>by rw[uC a0.o]
   exact uR HM O a1 (λb f J_=>G (h.5 b O) (o.5 b f)) bh
  rintro ar c_ V_ W hD⟨b,f,rfl⟩ ⟨rfl,ac,x,e,h1,S_,y,O_⟩ hK;have Z_:=Dc N_ aa (len:=a) O (dU f) (p:=λV=>!Xh (l<|s.getD a 0) V) e.symm (λC hy=>by rw[ad.o,h1 C hy];rfl) (by rw[ad.o,S_];rfl);have a0:=Y Z_;have be:=Y y;have aj:=Y O_;have a1:=Y hK;clear Z_ h1 S_ y O_ hK e;gi_wp2;refine⟨⟨a+1,ar::R_,_,_,_,_,_,_,_,_,_,_,_,O,R,Y ?_,Y ?_,Y ?_⟩,SA⟩;·exact(P.trans ⟨o.1,o.2,o.3,o.4,λb f _=>o.5 b f⟩).trans be
  .exact aj.congr λc _=>by rw[uY a0.o,ad.o]
  exact uR HM O a1 (λb f J_=>G (be.5 b O λe=>J_<|by injection e) (o.5 b f)) bh
 have di:a=B:=O;subst di;have el:=G (bZ<|P.5 (Z q.1) eb λe=>by injection e with e;omega) bf;gi_wp2;refine U4 R_ wr HM P.4 λW' b7=>?_;refine⟨Hl d n n,by simp[results,results174,go_sem],d,l,R,O,?_,?_,cz⟩;·exact(az.grown P cl λb e=>by cases e;omega).trans (b7.mono cl)
 exact HR.of_block<|b7.5 d O
end
structure Pp(w Y_:Ub)(V:N)(a:Uy)(n c Kw:N)(xs:Wi)(Gi LB Go:N)(go:Wk)(WO:Vp):Prop where
 low:Sw (Z w.1) w Y_
 f0:E Y_ ⟨Z w.1,0,U⟩=S (Si S6 (V:I))
 f1:E Y_ ⟨Z w.1,1,U⟩=S (X a n c)
 r0:E Y_ ⟨Z w.1+1,0,U⟩=S (X U 0 0)
 r1:E Y_ ⟨Z w.1+1,1,U⟩=S (X U 0 0)
 rz:∀q,Y_.frozen? ⟨Z w.1+1,q,U⟩=Sn
 gi:Y_.rowIs Gi 113 n λ_=>X U 0 0
 l0:E Y_ ⟨LB,0,U⟩=S (X (S ⟨Gi,0,U⟩) n n)
 l1:E Y_ ⟨LB,1,U⟩=S (X (S ⟨Go,0,U⟩) n n)
 o:XK Y_ Go n Kw go (λ_=>Kw) WO
 wd:XQ WO
 has:∀b,b<n->∀v,Xh (WO b) v=So↔(b,v)∈Nr xs n
 b1:Z w.1+2<=Gi
 b2:Z w.1+2<=LB
 b3:Z w.1+2<=Go
 b4:∀i,i<n->Z w.1+2<=go i
 d1:Gi≠LB
 d2:Gi≠Go
 d3:LB≠Go
 d4:∀i,i<n->go i≠Gi/\go i≠LB
theorem tT(F:Fence)(n:N)(b:F.1 118)(c:F.4=U){v1 v2 v3 v4 v5:Uj}(w:Ub):
 CallsIn F n prog 118 #[Sa #[a,v1,v2,v3,v4,v5]] w λe d=>e=Rt (.func (.func 159) #[] #[Sj (S ⟨Z w.1,0,U⟩)])/\d=D w (Sc #[a,v1,v2,v3,v4,v5] 71):=by
 refine iD func118 R b ?_ c;simp only[ntmps118,xY,Nat.reduceAdd,Nat.reduceSub];gi_wp2;go_ret;exact⟨R,R⟩
theorem XK.setCell(h:XK w n m k f F M)(p:Addr)(v:Uj)(b:p.1≠n)(c:∀i,i<m->p.1≠f i):XK (Se w p v) n m k f F M :=
 ⟨h.1.setOther (λe=>b e.symm) v,λi a=>(h.2 i a).setOther (λe=>c i a e.symm) v,h.3,h.o⟩
theorem VR{go:Wk}(C:Sw (Z w.1) w v)(L_:Z v.1=Z w.1+2)(h:Sw (Z v.1) v u)(L:E v ⟨Z w.1,0,U⟩=S (Si S6 (n:I)))(f1:E v ⟨Z w.1,1,U⟩=S (X p m c))(P:E v ⟨Z w.1+1,0,U⟩=S (X U 0 0))(T:E v ⟨Z w.1+1,1,U⟩=S (X U 0 0))(rz:∀q,v.frozen? ⟨Z w.1+1,q,U⟩=Sn)(t:u.rowIs B 113 m λ_=>X U 0 0)(y:u.rowIs g 116 2 λ_=>X U 0 0)(z:XK u i m k go (λ_=>k) M)(K:XQ M)(V:∀j,j<m->∀s,Xh (M j) s=So↔(j,s)∈Nr x m)(W:Z w.1+2<=B)(b2:Z w.1+2<=g)(C_:Z w.1+2<=i)(D_:∀b,b<m->Z w.1+2<=go b)(a:i≠g/\B≠g/\B≠i/\∀b,b<m->go b≠B/\go b≠g):
 Pp w (Se (Se u ⟨g,0,U⟩ (X (S ⟨B,0,U⟩) m m)) ⟨g,1,U⟩ (X (S ⟨i,0,U⟩) m m)) n p m c k x B g i go M:=by
 have r:=(y.set 0<|Hl B m m).set 1 (Hl i m m);have f:∀d:Addr,d.1<Z v.1->d.1≠g->E (Se (Se u (A g 0) (Hl B m m)) (A g 1) (Hl i m m)) d=E v d:=λd F o=>
  G (bH _ _ _ _ λe=>o e.symm) (G (bH _ _ _ _ λe=>o e.symm) (h.cell F))
 refine⟨((Xg C h).setCell (by show Z w.1<=g;omega) _).setCell (by show Z w.1<=g;omega) _,G (f _ (by show Z w.1<_;omega) (by show Z w.1≠g;omega)) L,G (f _ (by show Z w.1<_;omega) (by show Z w.1≠g;omega)) f1,G (f _ (by show Z w.1+1<_;omega) (by show Z w.1+1≠g;omega)) P,G (f _ (by show Z w.1+1<_;omega) (by show Z w.1+1≠g;omega)) T,λq=>?_,(t.setOther a.2.1 _).setOther a.2.1 _,G (r.cell (i:=0) vY) sP,G (r.cell (i:=1) vY) sP,(z.setCell _ _ (λe=>a.1 e.symm) λb l e=>(a.2.2.2 b l).2 e.symm).setCell _ _ (λe=>a.1 e.symm) λb l e=>(a.2.2.2 b l).2 e.symm,K,V,W,b2,C_,D_,a.2.1,a.2.2.1,λe=>a.1 e.symm,a.2.2.2⟩;exact G (eX _ _ _ _) (G (eX _ _ _ _) (G (h.frozen (p:=A (Z w.1+1) q) (by show Z w.1+1<_;omega)) (rz q)))
structure VD where
 w:Ub
 V:N
 n:N
 c:N
 Kw:N
 K2:N
 a:Uy
 xs:Wi
 Gi:N
 LB:N
 Go:N
 DB:N
 Gd:N
 Gn:N
 bS:N
 gS:N
 sA:N
 s3:N
 M:N
 go:Wk
 gd:Wk
 WO:Vp
structure PE where
 gi:Wk
 ci:Wk
 WI:Vp
 WD:Vp
 nx:Vu
 Ws:Wk
 vS:Uj
 Lf:Wa
structure PO(p:VD):Prop where
 a1:Z p.w.1+2<=p.9/\p.9<p.sA
 a2:Z p.w.1+2<=p.LB/\p.LB<p.sA
 a3:Z p.w.1+2<=p.Go/\p.Go<p.sA
 a4:∀i,i<p.n->Z p.w.1+2<=p.go i/\p.go i<p.sA
 d1:p.9≠p.LB
 d2:p.9≠p.Go
 d3:p.LB≠p.Go
 d4:∀i,i<p.n->p.go i≠p.9/\p.go i≠p.LB
 a5:p.sA<=p.Gd/\p.Gd<p.s3
 a6:∀i,i<p.n->p.sA<=p.gd i/\p.gd i<p.s3
 a7:p.DB=p.s3
 a8:p.Gn=p.s3+1
 a9:p.s3+2<=p.bS/\p.bS<p.M
 a10:p.s3+2<=p.gS/\p.gS<p.M
 a11:p.bS≠p.gS
def N6(a:Wi)(i:N):Wc:=(a[i]?).elim [] λx=>x.3.tg
theorem VS(h:n<J x):N6 x n=x[n].3.tg:=by simp[N6,h]
structure Oi(p:VD)(W:Ub)(k:N)(d:PE):Prop where
 low:Sw (Z p.w.1) p.w W
 sz:p.M<=Z W.1
 f0:E W ⟨Z p.w.1,0,U⟩=S (Si S6 (p.V:I))
 f1:E W ⟨Z p.w.1,1,U⟩=S (X p.a p.n p.c)
 r0:E W ⟨Z p.w.1+1,0,U⟩=S (X U 0 0)
 r1:E W ⟨Z p.w.1+1,1,U⟩=S (X U 0 0)
 rz:∀q,W.frozen? ⟨Z p.w.1+1,q,U⟩=Sn
 l0:E W ⟨p.LB,0,U⟩=S (X (S ⟨p.9,0,U⟩) p.n p.n)
 l1:E W ⟨p.LB,1,U⟩=S (X (S ⟨p.Go,0,U⟩) p.n p.n)
 d0:E W ⟨p.DB,0,U⟩=S (X (S ⟨p.Gd,0,U⟩) p.n p.n)
 o:XK W p.Go p.n p.5 p.go (λ_=>p.5) p.WO
 inr:W.rowIs p.9 113 p.n λi=>if i<k then X (S ⟨d.1 i,0,U⟩) p.5 (d.2 i)else X U 0 0
 ins:∀i,i<k->Cp W (d.1 i) p.5 (d.2 i) (d.3 i)
 inj:∀i j,i<k->j<k->d.1 i=d.1 j->i=j
 igM:∀i,i<k->p.M<=d.1 i
 defs:XK W p.Gd p.n p.5 p.gd (λ_=>p.5) d.4
 nxr:W.rowIs p.Gn 35 p.n λi=>if i<k then d.5 i else X U 0 0
 nxs:∀i,i<k->∃a' c',d.5 i=X a' (J (N6 p.8 i)) c'/\Yv W (λb=>p.M<=b/\(∀j,j<k->b≠d.1 j)/\S b≠d.7.ownBlock) a' (N6 p.8 i)
 sea:YW W p.bS p.gS p.M p.6 p.a p.n p.c d.6 d.7 d.8
 giv:∀i,i<k->S (d.1 i)≠d.7.ownBlock
def ix{a:Type}(f:N->a)(k:N)(v:a):N->a:=λi=>if i=k then v else f i
theorem Zt{a:Type}(f:N->a)(v:a):ix f n v n=v:=by simp[ix]
theorem Zb{a:Type}(f:N->a)(v:a)(h:m≠n):ix f n v m=f m:=by simp[ix,h]
theorem Oi.next{p:VD}{d:PE}(h:Oi p w n d)(s:PO p)(B:n<p.n){gB CB:N}{I' D':Wk}{nk v':Uj}{Ws':Wk}{Lf':Wa}(W:v.4=w.4)(T:v.2=w.2)(Q_:v.5=w.5)(L:Z w.1<=Z v.1)(M:∀q,q<Z w.1->q≠p.9->q≠p.gd n->q≠p.Gn->q≠p.bS->q≠p.gS->S q≠d.7.ownBlock->v.1[q]?=w.1[q]?)(ab:Z w.1<=gB)(O_:Cp v gB p.5 CB I')(M_:v.rowIs p.9 113 p.n λi=>if i=n then Hl gB p.5 CB else if i<n then Hl (d.1 i) p.5 (d.2 i)else Hq)(L_:Cp v (p.gd n) p.5 p.5 D')(N_:v.rowIs p.Gn 35 p.n λi=>if i=n then nk else if i<n then d.5 i else Hq)(P_:∃m u,nk=X m (J (N6 p.8 n)) u/\Yv v (λf=>Z w.1<=f/\f≠gB/\S f≠v'.ownBlock) m (N6 p.8 n))(S_:YW v p.bS p.gS p.M p.6 p.a p.n p.c Ws' v' Lf')(c:v'.ownBlock=d.7.ownBlock\/∀q,v'.ownBlock=S q->Z w.1<=q)(U_:S gB≠v'.ownBlock):
 Oi p v (n+1) ⟨ix d.1 n gB,ix d.2 n CB,ix d.3 n I',ix d.4 n D',ix d.5 n nk,Ws',v',Lf'⟩:=by
 have V_:=λq e=>(h.19.6.lt q e).1;have hM:=s.a9;have aa:=s.14;have hG:=s.9;have X_:=h.2;have W_:=h.1.4;have h7:=s.a7;have h8:=s.a8;have ac:=s.a6 n B;have k:∀q,q<p.M->q≠p.9->q≠p.gd n->q≠p.Gn->q≠p.bS->q≠p.gS->v.1[q]?=w.1[q]?:=λq t y K I_ J_ K_=>M q O y K I_ J_ K_ (λe=>by have:=V_ q e.symm;omega);have Y_:=s.1;have P:=s.2;have Z_:=s.3;have r:∀q o C,q<p.sA->q≠p.9->E w (A q o)=S C->E v (A q o)=S C:=λq o C t y z=>G (Xc<|k q O y O O O O) z;have V:∀q,p.M<=q->q<Z w.1->S q≠d.7.ownBlock->v.1[q]?=w.1[q]?:=λq t y K=>M q y O O O O O K;refine⟨⟨G W h.1.1,G T h.1.2,G Q_ h.1.3,aJ W_ L,λq hq=>G (k q O O O O O O) (h.1.5 q hq)⟩,aJ X_ L,r _ _ _ O O h.3,r _ _ _ O O h.4,r _ _ _ O O h.5,r _ _ _ O O h.6,λq=>?rz,r _ _ _ P.2 (λe=>s.5 e.symm) h.8,r _ _ _ P.2 (λe=>s.5 e.symm) h.9,G (Xc<|k p.DB O O O O O O) h.d0,?out,?inr,?ins,?inj,?igM,?defs,?nxr,?nxs,S_,?giv⟩
 case rz=>rw[bJ (a:=(A (Z p.w.1+1) q)) (k (Z p.w.1+1) O O O O O O)];exact h.7 q
 case out=>
  refine⟨h.o.1.of_block (k p.Go O (λe=>s.6 e.symm) O O O O),λi a=>?_,h.o.3,h.o.o⟩;have:=s.4 i a;exact(h.o.2 i a).of_block (k _ O (s.8 i a).1 O O O O)
 case inr=>
  refine M_.congr λi _=>?_;by_cases e:i=n;·rw[aU e,aU O,e];simp only[Zt]
  rw[aM e];by_cases e2:i<n;·rw[aU e2,aU O];simp only[Zb _ _ e]
  rw[aM e2,aM O]
 case ins=>
  intro i a;by_cases e:i=n;·subst e;simp only[Zt];exact O_
  have g:i<n:=O;simp only[Zb _ _ e];exact(h.13 i g).of_block (V _ (h.15 i g) (h.13 i g).lt (h.20 i g))
 case inj=>
  intro i j a F e;by_cases e1:i=n
  .by_cases e2:j=n;·omega
   simp only[e1,Zt,Zb _ _ e2]at e;have:=(h.13 j O).lt;omega
  by_cases e2:j=n
  .simp only[e2,Zt,Zb _ _ e1]at e;have:=(h.13 i O).lt;omega
  simp only[Zb _ _ e1,Zb _ _ e2]at e;exact h.14 i j O O e
 case igM=>
  intro i a;by_cases e:i=n;·subst e;simp only[Zt];omega
  simp only[Zb _ _ e];exact h.15 i O
 case defs=>
  refine⟨h.16.1.of_block (k p.Gd O O (λe=>h.16.o n B e.symm) O O O),λi a=>?_,h.16.3,h.16.o⟩;by_cases e:i=n;·subst e;simp only[Zt];exact L_
  simp only[Zb _ _ e];have:=s.a6 i a;exact(h.16.2 i a).of_block (k _ O O (λe2=>e<|h.16.3 i n a B e2) O O O)
 case nxr=>
  refine N_.congr λi _=>?_;by_cases e:i=n;·rw[aU e,aU O,e];simp only[Zt]
  rw[aM e];by_cases e2:i<n;·rw[aU e2,aU O];simp only[Zb _ _ e]
  rw[aM e2,aM O]
 case nxs=>
  intro i a;by_cases e:i=n
  .subst e;simp only[Zt];let⟨m,u,e1,t⟩:=P_;refine⟨m,u,e1,λq hq=>?_⟩;let⟨f,o,e2,b,z⟩:=t q hq;refine⟨f,o,e2,⟨⟨O,λj F=>?_,b.1.2.2⟩,b.2⟩,z⟩;by_cases x:j=i;·rw[x];simp only[Zt];exact b.1.2.1
   simp only[Zb _ _ x];have:=(h.13 j O).lt;omega
  have g:i<n:=O;simp only[Zb _ _ e];let⟨m,u,e1,t⟩:=h.18 i g;refine⟨m,u,e1,λq hq=>?_⟩;let⟨f,o,e2,b,z⟩:=t q hq;refine⟨f,o,e2,⟨⟨b.1.1,λj F=>?_,λl=>?_⟩,O⟩,G (Xc<|V f b.1.1 b.2 b.1.2.2) z⟩
  .by_cases x:j=n;·rw[x];simp only[Zt];omega
   simp only[Zb _ _ x];exact b.1.2.1 j O
  obtain c|c:=c;·rw[c]at l;exact b.1.2.2 l
  have:=c f l.symm;omega
 intro i a;by_cases e:i=n;·subst e;simp only[Zt];exact U_
 have g:i<n:=O;simp only[Zb _ _ e];intro l;obtain c|c:=c;·rw[c]at l;exact h.20 i g l
 have:=c _ l.symm;have:=(h.13 i g).lt;omega
theorem ve(tg:Yr):∀(m b:N)(s:Wk×Wa)(P:Wa),(∀x,Xh s.1 x=So->x∈s.2\/x∈P)->∀x,Xh (C9 tg m b s).1 x=So->x∈(C9 tg m b s).2\/x∈P
 |0,_,_,_,h=>h
 |m+1,b,s,P,h=>by
  by_cases e:Xh s.1 b=So;·rw[Vd e];exact h
  have i:Xh s.1 b=Sn:=by simpa using e
  have g:∀(l:Wa)(c:Wk×Wa),(∀x,Xh c.1 x=So->x∈c.2\/x∈b::P)->∀x,Xh (l.foldl (λs t=>C9 tg m t s) c).1 x=So->x∈(l.foldl (λs t=>C9 tg m t s) c).2\/x∈b::P:=by
   intro l
   induction l with
   |nil=>exact λ_ h=>h
   |cons t l k=>exact λc f=>k _<|ve tg m t c (b::P) f
  rw[nY i];intro x j;obtain a|a:=g (tg b) (YH s.1 b,s.2) (λy d=>by
   rw[Z8,dI,bD]at d;rcases d with rfl|d;·exact aZ sP
   rcases h y d with a|a;·exact bC a
   exact aZ<|by simp[a]) x j
  .exact bC<|by simp[a]
  obtain rfl|a:=cH.1 a;·exact bC sP
  exact aZ a
theorem vt(tg:Yr){n:N}(f:∀b,b<n->∀t∈tg b,t<n):∀(m b:N)(s:Wk×Wa),b<n->(∀x∈s.2,x<n)->∀x∈(C9 tg m b s).2,x<n
 |0,_,_,_,h=>h
 |m+1,b,s,hb,h=>by
  by_cases e:Xh s.1 b=So;·rw[Vd e];exact h
  have j:Xh s.1 b=Sn:=by simpa using e
  have i:∀(l:Wa)(c:Wk×Wa),(∀t∈l,t<n)->(∀x∈c.2,x<n)->∀x∈(l.foldl (λs t=>C9 tg m t s) c).2,x<n:=by
   intro l
   induction l with
   |nil=>exact λ_ _ h=>h
   |cons t l k=>exact λc d g=>k _ (λq hq=>d q<|by simp[hq]) (vt tg f m t c (d t sP) g)
  rw[nY j];intro x a;obtain a|a:=bU.1 a;·exact i (tg b) (YH s.1 b,s.2) (f b hb) h x a
  have:x=b:=by simpa using a
  omega
theorem BD(tg:Yr){s:Wk×Wa}(b:k<n)(d:XB s.1 n<=m):Xh (C9 tg m k s).1 k=So:=by
 cases m with
 |zero=>exact KB tg 0 k s k<|T8 O b
 |succ m=>
  by_cases a:Xh s.1 k=So;·exact KB tg _ k s k a
  have c:Xh s.1 k=Sn:=by simpa using a
  rw[nY c];exact Ue tg m _ _ k<|by rw[Z8];simp
def Ut(W:Wk)(q:N×Wc×Wc):Wk:=E2 (Js W<|X9 q.2.2) (X9 q.2.1)
def Uo(W:Wk)(q:N×Wc×Wc):Wk:=E2 W<|X9 q.2.2
def OS(x:Xe)(W:Wk):Wk:=(NS x).foldl Ut W
def OU(x:Xe):Wk:=(NS x).foldl Uo λ_=>0
theorem FR(h:XA f):XA (OS q f):=by
 unfold OS;generalize NS q=l
 induction l generalizing f with
 |nil=>exact h
 |cons b l a=>exact a<|Zs _ (JX _ h)
theorem JW:XA (λ_=>0):=λ_=>by show 0<_;decide
theorem uG{l:List (N×Wc×Wc)}(h:XA f):XA (l.foldl Uo f):=by
 induction l generalizing f with
 |nil=>exact h
 |cons q l a=>exact a<|Zs _ h
theorem Fg:XA (OU q):=uG JW
structure O2(p:VD)(k:N)(d:PE):Prop where
 wi:∀i (h:i<J p.8),i<k->d.3 i=OS p.8[i] (p.WO i)
 wd:∀i (h:i<J p.8),d.4 i=if i<k then OU p.8[i]else λ_=>0
 mem:∀x,Xh d.6 x=So->x∈d.8
 sn:∀i,i<k->Xh d.6 i=So
 lt:∀x∈d.8,x<p.n
 wok:XA d.6
 len:J d.8+XB d.6 p.n<=p.n
theorem CN(p:VD):O2 p 0 ⟨λ_=>0,λ_=>0,λ_ _=>0,λ_ _=>0,λ_=>Hq,λ_=>0,Hq,[]⟩ :=
 ⟨λi _ h=>Sz h O,λi _=>sP,λx h=>by simp[Z3]at h,λi h=>Sz h O,λx h=>Sz h eA,JW,by simpa using ZA (λ_=>0) p.n⟩
theorem O2.next{p:VD}{d:PE}(h:O2 p n d)(c:n<p.n)(g:∀f,f<p.n->∀t∈X8 p.8 f,t<p.n)(k j:Wk)(nx:Vu)(v:Uj){I' D':Wk}(s:n<J p.8)(m:I'=OS p.8[n] (p.WO n))(l:D'=OU p.8[n]):
 O2 p (n+1) ⟨k,j,ix d.3 n I',ix d.4 n D',nx,(C9 (X8 p.8) p.n n (d.6,d.8)).1,v,(C9 (X8 p.8) p.n n (d.6,d.8)).2⟩:=by
 refine⟨λi a r=>?_,λi a=>?_,λx o=>?_,λi a=>?_,?_,oW _ _ _ _ h.6,aJ (qE _ g _ _ _ c) h.7⟩
 .by_cases e:i=n;·subst e;simp only[Zt];exact m
  simp only[Zb _ _ e];exact h.1 i a O
 .by_cases e:i=n;·subst e;simp only[Zt];rw[aU O];exact l
  simp only[Zb _ _ e];rw[h.2 i a];by_cases e2:i<n;·rw[aU e2,aU O]
  rw[aM e2,aM O]
 .rcases ve (X8 p.8) p.n n (d.6,d.8) [] (λy q=>bC<|h.3 y q) x o with b|b;·exact b
  cases b
 .by_cases e:i=n;·subst e;exact BD _ c<|ZA _ _
  exact KB _ _ _ _ _<|h.4 i O
 exact vt _ g _ _ _ c h.5
def H7(y:Yg):I:=if dB y.1 then y.2 else -1
def Ya(v:I)(fin:Bool):List Yg->N
 |[]=>if fin then 1 else 0
 |y::ys=>if Cg (Iw y) v then 1 else if H7 y=v then 2 else Ya v fin ys
def NA(x:Xe)(a:Wc)(v:I):N:=Ya v (Cg (Id x.3) v||Cg a v) x.2
def pd(W:Wk)(y:Yg):Wk:=E2 (Js W<|X9 (BW y)) (X9<|Iw y)
theorem XD:Cg l t=So↔t∈l:=by unfold Cg;exact eY
theorem Cb{y:Yg}(a:∀v∈Iw y,0<=v)(b:∀v∈BW y,0<=v)(v:N):Xh (pd f y) v=So↔(v:I)∈Iw y\/((v:I)∉BW y/\Xh f v=So):=by
 unfold pd;rw[YR,Kt,dI,bD,YV a,bY,bD,YV b]
theorem YN{y:Yg}:H7 y=(n:I)↔(n:I)∈BW y:=by
 unfold H7 BW;by_cases e:dB y.1=So;·rw[aU e,aU e];simp[nJ]
 rw[aM e,aM e];simp
theorem xe{v:N}{W:Wk}:∀(a:Vr),(∀y∈a,(∀v∈Iw y,0<=v)/\∀v∈BW y,0<=v)->(Xh (a.foldr (λy c=>pd c y) W) v=So↔Ya (v:I) (Xh W v) a=1)
 |[],_=>by
  unfold Ya;cases h:Xh W v<;>simp[h]
 |y::a,hy=>by
  have e:=xe (v:=v) (W:=W) a λz d=>hy z<|cN _ d;have b:=hy y cI;rw[List.foldr_cons,Cb b.1 b.2,e];show _↔(if Cg (Iw y) (v:I)then 1 else if H7 y=(v:I)then 2 else Ya (v:I) (Xh W v) a)=1;by_cases e1:(v:I)∈Iw y;·rw[aU<|XD.2 e1];simp[e1]
  rw[aM λh=>e1<|XD.1 h];by_cases e2:(v:I)∈BW y;·rw[aU<|YN.2 e2];simp[e1,e2]
  rw[aM λh=>e2<|YN.1 h];simp[e1,e2]
theorem Ev{a b:Type}{l:List a}(g:Fin (J l)->b):(Us (J l) 0).map g=((List.finRange (J l)).map g).reverse:=by
 unfold Us;rw[aW sP,List.map_reverse]
theorem E8{a:Type}(l:List a):(List.finRange (J l)).map (λj=>l[j])=l:=by
 apply mG;·simp
 intro i b c;simp
theorem Ex:((Us (J q.2) 0).map (VH q)).foldl Ut f=q.2.foldr (λy a=>pd a y) f:=by
 rw[Ev,List.foldl_reverse]
 conv=>rhs;rw[<-E8 q.2]
 rw[List.foldr_map,List.foldr_map];rfl
theorem vB(h:∀y∈q.2,(∀n∈Iw y,0<=n)/\∀n∈BW y,0<=n)(d:∀n∈Id q.3,0<=n)(c:∀p∈q.1,0<=p.1):
 Xh (OS q f) n=So↔(n:I)∉q.1.map Ph.dst/\Ya (n:I) (Cg (Id q.3) (n:I)||Xh f n) q.2=1:=by
 unfold OS NS;rw[iM,dT,iM,List.foldl_nil,Ex];have b:∀n∈q.1.map Ph.dst,0<=n:=λn g=>by obtain⟨p,a,rfl⟩:=aY.1 g;exact c p a
 show Xh (E2 (Js _<|X9 (q.1.map Ph.dst)) (X9 [])) n=So↔_;rw[YR,Kt,dI,bD,bY,bD,YV b];rw[xe q.2 h];have e:Xh (Ut f (J q.2+1,Id q.3,[])) n=(Cg (Id q.3) (n:I)||Xh f n):=by
  show Xh (E2 (Js f<|X9 []) (X9<|Id q.3)) n=_;rw[YR,Kt,eQ,dI,dI,bD,YV d,XD];simp[X9]
 rw[e];simp[X9]
theorem WK(d:∀y∈q.2,∀n∈BW y,0<=n)(i:∀p∈q.1,0<=p.1):Xh (OU q) n=So↔(n:I)∈q.1.map Ph.dst\/∃y∈q.2,(n:I)∈BW y:=by
 have f:∀(l:List (N×Wc×Wc))(W:Wk),Xh (l.foldl Uo W) n=So↔Xh W n=So\/∃b∈l,n∈X9 b.2.2:=by
  intro l
  induction l with
  |nil=>intro W;simp
  |cons b l m=>
   intro W;rw[iM,m];unfold Uo;rw[YR,dI,bD];simp only[cH,exists_eq_or_imp];constructor
   .rintro((h|h)|h);·exact aZ<|bC h
    .exact bC h
    exact aZ<|aZ h
   rintro(h|h|h);·exact bC<|aZ h
   .exact bC<|bC h
   exact aZ h
 have c:∀n∈q.1.map Ph.dst,0<=n:=λn a=>by obtain⟨p,e,rfl⟩:=aY.1 a;exact i p e
 unfold OU;rw[f,Z3];unfold NS;constructor
 .rintro(h|⟨b,hq,a⟩);·cases h
  obtain rfl|hq:=cH.1 hq;·simp[X9]at a
  obtain hq|hq:=bU.1 hq
  .obtain⟨j,_,rfl⟩:=aY.1 hq;exact aZ ⟨q.2[j],aH _,(YV<|d _ (aH _)).1 a⟩
  rw[cS.1 hq]at a;exact bC<|(YV c).1 a
 rintro(h|⟨y,k,a⟩);·exact aZ ⟨_,tE q,(YV c).2 h⟩
 obtain⟨j,g,rfl⟩:=bR k;exact aZ ⟨_,t6 q ⟨j,g⟩,(YV<|d _ (aH _)).2 a⟩
theorem UQ{v:N}{fin:Bool}:∀(c:Vr),Ya (v:I) fin c=0->∀y∈c,(v:I)∉BW y
 |[],_,_,h=>by cases h
 |z::zs,h,y,b=>by
  have a:(if Cg (Iw z) (v:I)then 1 else if H7 z=(v:I)then 2 else Ya (v:I) fin zs)=0:=h;by_cases e1:Cg (Iw z) (v:I)=So;·rw[aU e1]at a;cases a
  rw[aM e1]at a;by_cases e2:H7 z=(v:I);·rw[aU e2]at a;cases a
  rw[aM e2]at a;obtain rfl|b:=cH.1 b;·exact λd=>e2<|YN.2 d
  exact UQ zs a y b
theorem Ud{v:N}{fin:Bool}:∀(a:Vr),(∀y∈a,(v:I)∉BW y)->Ya (v:I) fin a≠2
 |[],_=>by unfold Ya;split<;>simp
 |z::zs,h=>by
  show(if Cg (Iw z) (v:I)then 1 else if H7 z=(v:I)then 2 else Ya (v:I) fin zs)≠2;by_cases e1:Cg (Iw z) (v:I)=So;·rw[aU e1];simp
  rw[aM e1,aM λe2=>h z cI<|YN.1 e2];exact Ud zs λy b=>h y<|cN _ b
theorem Vg{v:I}{fin:Bool}:∀(a:Vr),Ya v fin a<=2
 |[]=>by unfold Ya;split<;>simp
 |z::zs=>by
  show(if Cg (Iw z) v then 1 else if H7 z=v then 2 else Ya v fin zs)<=2;split
  .decide
  split
  .decide
  exact Vg zs
theorem TV{v:I}{fin:Bool}:∀(c:Vr),Ya v fin c=1->fin=So\/∃y∈c,v∈Iw y
 |[],h=>by
  have a:(if fin then 1 else 0)=1:=h;cases fin<;>simp_all
 |z::zs,h=>by
  have a:(if Cg (Iw z) v then 1 else if H7 z=v then 2 else Ya v fin zs)=1:=h;by_cases e1:Cg (Iw z) v=So;·exact aZ ⟨z,cI,XD.1 e1⟩
  rw[aM e1]at a;by_cases e2:H7 z=v;·rw[aU e2]at a;cases a
  rw[aM e2]at a;obtain b|⟨y,d,b⟩:=TV zs a;·exact bC b
  exact aZ ⟨y,cN _ d,b⟩
def G2(a:List Xe)(p t:I):List I:=match a[t.toNat]? with
 |none=>[]
 |some x=>if x.1=[]then []else (Rg (J (AQ a 0 t))).flatMap λi=>if (AQ a 0 t).getD i 0=p then x.1.map (λh=>h.2.getD i 0)else []
def XP(a:List Xe)(b:N):List I:=match a[b]? with
 |none=>[]
 |some x=>x.3.tg.flatMap<|G2 a (b:I)
theorem KE(q:Jy n x)(l:m<J x):(k:I)∈XP x m↔(m,k)∈Nr x (J x):=by
 have j:=λL P t a=>(q.1.3 L P t a).1
 have T:(k:I)∈XP x m↔∃t:N,∃a:t<J x,∃i,i<J (XX x (J x) t)/\(XX x (J x) t).getD i 0=m/\∃p∈x[t].1,p.2.getD i 0=(k:I):=by
  unfold XP;rw[aC l];simp only[bV];constructor
  .rintro⟨t,a,d⟩;have u:=q.1.3 _ (aH l) t a;obtain⟨h,rfl⟩:=bX u.1;have y:h<J x:=oN u.2;refine⟨h,y,?_⟩;unfold G2 at d;rw[dM,aC y]at d;simp only at d;by_cases e:x[h].1=[];·rw[aU e]at d;cases d
   rw[aM e]at d;let⟨i,c,b⟩:=bV.1 d;rw[K9 j]at c b;have v:i<J (XX x (J x) h):=by simpa [Xi]using c
   by_cases e2:(Xi<|XX x (J x) h).getD i 0=(m:I)
   .rw[aU e2]at b;let⟨p,f,s⟩:=aY.1 b;refine⟨i,v,?_,p,f,s⟩;simp only[Xi,bF,dX,aC v,jY,gR]at e2 |-;have:((XX x (J x) h)[i]:I)=(m:I):=e2;omega
   rw[aM e2]at b;cases b
  rintro⟨t,a,i,c,g,p,b,f⟩
  have V:m∈XX x (J x) t:=by
   rw[<-g,bF,aC c];exact aH c
  have F:(t:I)∈x[m].3.tg:=by
   have:=(Uf.1 V).2;rw[Km l]at this;let⟨K,r,e⟩:=aY.1 this;have:=j _ (aH l) K r;rw[show(t:I)=K by omega];exact r
  refine⟨(t:I),F,?_⟩;unfold G2;rw[dM,aC a];simp only;rw[aM (λe=>by rw[e]at b;cases b),K9 j];refine bV.2 ⟨i,by simpa [Xi]using c,?_⟩;rw[aU (by
   simp only[Xi,bF,dX,aC c,jY,gR]at g |-;show((XX x (J x) t)[i]:I)=(m:I);rw[g])]
  exact aY.2 ⟨p,b,f⟩
 rw[T];unfold Nr PW Og;rw[bV];constructor
 .rintro⟨t,a,i,c,g,p,b,f⟩;refine⟨t,bE.2 a,?_⟩;rw[aC a];refine bV.2 ⟨p,b,?_⟩;have z:=(q.9 t a p b).1;rw[K9 j]at z;have W:J p.2=J (XX x (J x) t):=by simpa [Xi]using z
  have o:i<J p.2:=O;rw[bF,aC o]at f;rw[bF,aC c]at g;have r:i<J ((XX x (J x) t).zip (X9 p.2)):=by simp[X9];omega
  have e:((XX x (J x) t).zip (X9 p.2))[i]=(m,k):=by
   rw[List.getElem_zip];simp only[X9,cM];have B:(XX x (J x) t)[i]=m:=g;have C:p.2[i]=(k:I):=f;rw[B,C];rfl
  rw[<-e];exact aH r
 rintro⟨t,a,d⟩;have a:=bE.1 a;rw[aC a]at d;let⟨p,b,f⟩:=bV.1 (show _∈List.flatMap _ x[t].1 from d);let⟨i,c,e⟩:=bR f;rw[List.getElem_zip]at e;have w:i<J (XX x (J x) t):=by simp at c;omega
 have o:i<J p.2:=by simp[X9]at c;omega
 refine⟨t,a,i,w,?_,p,b,?_⟩
 .rw[bF,aC w];exact fI Prod.fst e
 rw[bF,aC o];have s:(X9 p.2)[i]'(by simp[X9];omega)=k:=fI Prod.snd e;simp only[X9,cM]at s;have:=(q.9 t a p b).2 p.2[i] (aH o);show p.2[i]=(k:I);omega
def C7(a:List Xe)(b v:N):N:=match a[b]? with
 |none=>0
 |some x=>NA x (XP a b) (v:I)
def Yo(a:List Xe)(b v:N):Bool:=match a[b]? with
 |none=>Sn
 |some x=>Cg (x.1.map Ph.dst) (v:I)
inductive Nu (xs:List Xe) (v:N):N->Prop
 |root:Nu xs v 0
 |step {b t:N}:Nu xs v b->Yo xs b v=Sn->C7 xs b v=0->t∈X8 xs b->Nu xs v t
def N4(a:Wi)(v:N):Prop:=∃b,Nu a v b/\Yo a b v=Sn/\C7 a b v=1
theorem Nu.lt(h:UF x)(a:Nu x n m):m<J x:=by
 induction a with
 |root=>exact h.1
 |step _ _ _ b c=>exact h.tg _ c _ b
theorem EX(d:Jy n x){q:Vp}(P:∀i (h:i<J x),M i=OS x[i] (q i))(C:∀i (h:i<J x),N_ i=OU x[i])(F:∀b,b<J x->∀m,Xh (q b) m=So↔(b,m)∈Nr x (J x)){ord:Vv}(T:∀b,b<J x->ord b){src:Yr}(K:∀b,b<J x->src b=X8 x b):
 Sp M N_ ord src 0 m↔N4 x m:=by
 have B:∀b,b<J x->(Xh (M b) m=So↔Yo x b m=Sn/\C7 x b m=1):=λb a=>by
  have g:=aH a;rw[P b a,vB (λy j=>⟨λz k=>(d.5 _ g y j z k).1,λz k=>(d.6 _ g y j z k).1⟩) (λz k=>(d.7 _ g z k).1) λp o=>(d.8 _ g p o).1];unfold Yo C7 NA;rw[aC a];simp only;have r:Xh (q b) m=Cg (XP x b) (m:I):=by rw[eQ,F b a,XD,KE d a]
  rw[r,<-gU,XD]
 have V:∀b,b<J x->Yo x b m=Sn->C7 x b m=0->Xh (N_ b) m=Sn:=λb a e c=>by
  have g:=aH a;rw[C b a,<-gU,WK (λy j z k=>(d.6 _ g y j z k).1) λp o=>(d.8 _ g p o).1];unfold Yo at e;unfold C7 NA at c;rw[aC a]at e c;simp only at e c;rintro(h|⟨y,j,h⟩);·rw[XD.2 h]at e;cases e
  exact UQ _ c y j h
 have W:∀b,b<J x->Xh (N_ b) m=Sn->Yo x b m=Sn/\C7 x b m≠2:=λb a h=>by
  have g:=aH a;rw[C b a,<-gU,WK (λy j z k=>(d.6 _ g y j z k).1) λp o=>(d.8 _ g p o).1]at h;unfold Yo C7 NA;rw[aC a];simp only;refine⟨?_,Ud _ λy j c=>h<|aZ ⟨y,j,c⟩⟩;rw[<-gU,XD];exact λc=>h<|bC c
 constructor
 .intro h
  have w:∀b l,Sp M N_ ord src b l->l=m->Nu x m b->N4 x m:=by
   intro b l u
   induction u with
   |init e=>rintro rfl f;exact⟨_,f,(B _<|f.lt d.1).1 e⟩
   |@take b K_ l e c L s v=>
    rintro rfl f;have a:=f.lt d.1;have t:=W b a s;have J_:C7 x b l<=2:=by
     unfold C7;split;·exact aN
     exact Vg _
    by_cases r:C7 x b l=1;·exact⟨b,f,t.1,r⟩
    exact v R<|Nu.step f t.1 (oN t.2) (by rw[<-K b a];exact c)
  exact w 0 m h R Nu.root
 rintro⟨b,f,e,c⟩
 have w:∀b,Nu x m b->Sp M N_ ord src b m->Sp M N_ ord src 0 m:=by
  intro b f
  induction f with
  |root=>exact λh=>h
  |@step b L_ e c L s v=>
   intro u;have a:=e.lt d.1;exact v<|Sp.take (T b a) (by rw[K b a];exact s) u (V b a c L)
 exact w b f<|Sp.init ((B b<|f.lt d.1).2 ⟨e,c⟩)
theorem wH(a:Jy n x)(j:N4 x m):m<n:=by
 let⟨u,o,_,b⟩:=j;have f:=o.lt a.1;have h:=aH f;unfold C7 NA at b;rw[aC f]at b;simp only at b;obtain d|⟨y,q,d⟩:=TV _ b
 .rcases dI _ _▸d with e|e;·have:=(a.7 _ h _<|XD.1 e).2;omega
  have g:=(KE a f).1 (XD.1 e);unfold Nr PW Og at g;let⟨t,c,i⟩:=bV.1 g;have c:=bE.1 c;rw[aC c]at i;let⟨s,p,k⟩:=bV.1 (show _∈List.flatMap _ x[t].1 from i);have l:=List.of_mem_zip k;let⟨z,r,v⟩:=aY.1 l.2;have:=(a.9 t c s p).2 z r;omega
 have:=(a.5 _ h y q _ d).2;omega
section
structure OI(xs:Wi)(v:N)(td:Wa)(i:N):Prop where
 nd:td.Nodup
 op:∀x∈td,Nu xs v x
 z:0∈td
 dn:∀j (h:j<J td),j<i->Yo xs td[j] v=So\/(C7 xs td[j] v≠1/\(C7 xs td[j] v=0->∀t∈X8 xs td[j],t∈td))
section
variable {xs: Wi} {v: N} {td: Wa} {i: N}
theorem Ci:OI xs v [0] 0:=⟨sP,λx a=>(cS.1 a)▸Nu.root,sP,λj _ h=>Sz h O⟩
theorem OI.go(h:OI xs v td i)(c:i<J td)(a:Yo xs td[i] v=So\/(C7 xs td[i] v≠1/\(C7 xs td[i] v=0->∀t∈X8 xs td[i],t∈td))):OI xs v td (i+1) :=
 ⟨h.1,h.2,h.z,λj b d=>if e:j=i then by subst e;exact a else h.4 j b O⟩
theorem OI.push(h:OI xs v td i)(f:i<J td)(l:Yo xs td[i] v=Sn)(c:C7 xs td[i] v=0){t:N}(m:t∈X8 xs td[i])(k:t∉td):OI xs v (td++[t]) i:=by
 refine⟨?_,λx a=>?_,by simp[h.z],λj r g=>?_⟩
 .rw[gW];exact⟨h.1,sP,λo ha p d=>(cS.1 d)▸λe=>k (e▸ha)⟩
 .rcases bU.1 a with a|a;·exact h.2 x a
  rw[cS.1 a];exact Nu.step (h.2 _<|aH f) l c m
 have b:j<J td:=O;rw[fA b];obtain q|⟨q1,q2⟩:=h.4 j b g;·exact bC q
 exact aZ ⟨q1,λe u n=>dD _<|q2 e u n⟩
theorem OI.none(h:OI xs v td i)(k:J td<=i):¬N4 xs v:=by
 rintro⟨b,c,d,e⟩;have f:∀b,Nu xs v b->b∈td:=λb c=>by
  induction c with
  |root=>exact h.z
  |step _ q1 q2 q3 g=>
   obtain⟨j,a,rfl⟩:=bR g;obtain q|q:=h.4 j a O;·rw[q]at q1;cases q1
   exact q.2 q2 _ q3
 obtain⟨j,a,rfl⟩:=bR<|f b c;obtain q|q:=h.4 j a O;·rw[q]at d;cases d
 exact q.1 e
theorem OI.hit(h:OI xs v td i)(b:i<J td)(c:Yo xs td[i] v=Sn)(a:C7 xs td[i] v=1):N4 xs v:=⟨_,h.2 _<|aH b,c,a⟩
theorem OI.lt(h:OI xs v td i)(a:UF xs):∀x∈td,x<J xs:=λx b=>(h.2 x b).lt a
end
end
theorem Cr{go:Wk}(h:Pp w v n p m c k x B g i go M)(T:Z v.1<=j)(F:Sw (Z v.1) v u)(t:XK u j m k f (λ_=>k) λ_ _=>0)(V:∀b,b<m->Z v.1<=f b){l o:N}(K:Z u.1+2<=l)(L_:Z u.1+2<=o)(q:Sw (Z u.1+2) (D (D u<|.cells #[X (S ⟨j,0,U⟩) m m] 114) (Sc (madeCells #[X U 0 0] m) 35)) W)(r:YW W l o (Z W.1) ((m+63)/64) p m c (λ_=>0) (X U 0 0) []):
 PO ⟨w,n,m,c,k,(m+63)/64,p,x,B,g,i,Z u.1,j,Z u.1+1,l,o,Z v.1,Z u.1,Z W.1,go,f,M⟩/\Oi ⟨w,n,m,c,k,(m+63)/64,p,x,B,g,i,Z u.1,j,Z u.1+1,l,o,Z v.1,Z u.1,Z W.1,go,f,M⟩ W 0 ⟨λ_=>0,λ_=>0,λ_ _=>0,λ_ _=>0,λ_=>X U 0 0,λ_=>0,X U 0 0,[]⟩:=by
 have S_:=F.4;have Q_:Z (D (D u<|.cells #[X (S ⟨j,0,U⟩) m m] 114) (Sc (madeCells #[X U 0 0] m) 35)).1=Z u.1+2:=sP;have I_:Sw (Z u.1) u (D (D u<|.cells #[X (S ⟨j,0,U⟩) m m] 114) (Sc (madeCells #[X U 0 0] m) 35)):=Xb (Xb Rf _) _;have T_:Z u.1+2<=Z W.1:=oN q.4
 have C:=I_.trans<|q.mono O;have e:=Xg F C;have R_:=h.1.4;have y:=h.7.lt;have z:=aI v _ h.8;have H_:=h.o.1.lt;have F_:=h.b1;have b2:=h.b2;have G_:=h.b3;have O_:(D (D u<|.cells #[X (S ⟨j,0,U⟩) m m] 114) (Sc (madeCells #[X U 0 0] m) 35)).rowIs (Z u.1+1) 35 m (λ_=>X U 0 0):=by
  have:=dG (D u<|.cells #[X (S ⟨j,0,U⟩) m m] 114) (X U 0 0) m 35;rwa[aO]at this
 have d:∀s:Addr,s.1<Z v.1->E W s=E v s:=λs P_=>e.cell P_;have L:g<Z v.1:=z;refine⟨⟨⟨F_,y⟩,⟨b2,z⟩,⟨G_,H_⟩,λb a=>⟨h.b4 b a,(h.o.2 b a).lt⟩,h.d1,h.d2,h.d3,h.d4,⟨T,t.1.lt⟩,λb a=>⟨V b a,(t.2 b a).lt⟩,R,R,⟨K,r.7⟩,⟨L_,r.8⟩,r.9⟩,?_⟩;refine⟨Xg h.1 e,aA,G (d _<|by show Z w.1<_;omega) h.2,G (d _<|by show Z w.1<_;omega) h.3,G (d _<|by show Z w.1+1<_;omega) h.4,G (d _<|by show Z w.1+1<_;omega) h.5,λP=>G (e.frozen (p:=A (Z w.1+1) P) (by show Z w.1+1<_;omega)) (h.6 P),G (d _ L) h.8,G (d _ L) h.9,G (q.cell (p:=A (Z u.1) 0) (by show Z u.1<_;omega)) SC,h.o.keep e,(h.7.of_block<|e.5 _ y).congr λb _=>sP,λb a=>Sz a O,λb U_ a=>Sz a O,λb a=>Sz a O,t.keep C,(O_.of_block<|q.5 _ O).congr λb _=>sP,λb a=>Sz a O,r,λb a=>Sz a O⟩
structure OO(w4:Ub)(gB gD Kw CB:N)(W0:Wk)(pre:List Pl)(V:Ub):Prop where
 os:V.4=w4.4
 tape:V.2=w4.2
 output:V.5=w4.5
 size:Z w4.1<=Z V.1
 fr:∀q,q<Z w4.1->q≠gB->q≠gD->V.1[q]?=w4.1[q]?
 ws:Cp V gB Kw CB ((pre.map Pl.dat).foldl Ut W0)
 wd:Cp V gD Kw Kw ((pre.map Pl.dat).foldl Uo λ_=>0)
theorem OO.own(j:n<Z w.1)(l:m<Z w.1):OwnFrom (Z w.1) (OO w n m k B f):=λr t V row h a q=>by
 have o:=h.4;have c:∀b,b<Z w.1->V.1[b]?=t.1[b]?:=λb p=>a.5 b O (λe=>by have:=(q b e.symm).1;omega);exact⟨G a.1 h.1,G a.2 h.2,G a.3 h.3,aJ o a.4,λb d g i=>G (c b d) (h.5 b d g i),h.6.of_block<|c n j,h.7.of_block<|c m l⟩
theorem OO.below(b:n<Z w.1)(c:m<Z w.1){a:List Pl}(h:OO w n m k B f a v)(d:Sw (Z v.1) v u):OO w n m k B f a u:=XO (OO.own b c) h d
theorem Ec{l:List (N×Wc×Wc)}(h:XA f):XA (l.foldl Ut f):=by
 induction l generalizing f with
 |nil=>exact h
 |cons q l a=>exact a<|Zs _ (JX _ h)
theorem OO.next{gB CB:N}{d:List Pl}(h:OO w gB n m CB f d v)(k:gB<Z w.1)(i:gB≠n){p:Pl}(b:v.grownBy u (S gB))(c:u.grownBy W (S gB))(a:W.grownBy V (S n))(j:Cp W gB m CB (Ut ((d.map Pl.dat).foldl Ut f) p.dat))(g:Cp V n m m (Uo ((d.map Pl.dat).foldl Uo λ_=>0) p.dat)):OO w gB n m CB f (d++[p]) V:=by
 have l:=h.4;have o:=b.4;have r:=c.4;have s:=a.4;refine⟨G a.1<|G c.1 (G b.1 h.1),G a.2<|G c.2 (G b.2 h.2),G a.3<|G c.3 (G b.3 h.3),O,λq q1 q2 q3=>?_,?_,?_⟩;·exact G (a.5 q O λe=>q3<|by injection e) (G (c.5 q O λe=>q2<|by injection e) (G (b.5 q O λe=>q2<|by injection e) (h.5 q q1 q2 q3)))
 .rw[bG,dT];exact j.of_block<|a.5 gB O λe=>i<|by injection e
 rw[bG,dT];exact g
theorem tC{row:Zm}(h:Xf w n (Z w.1) p l)(k:w.grownBy v row)(t:∀r,row=S r->m<=r/\∃o:Obj,w.1[r]?=S o/\o.isCells=Sn):Xf v n (Z v.1) p l:=λq j=>by
 let⟨b,o,f,c,e⟩:=h q j;refine⟨b,o,f,⟨c.1,aX c.2 k.4⟩,G (Xc<|k.5 b c.2 λe2=>?_) e⟩;let⟨s,g,i⟩:=Yn e;let⟨_,u,a,d⟩:=t b e2.symm;rw[show w.1[b]?=S s from g]at a;injection a with a;subst a;rw[i]at d;cases d
theorem qn(n b:N)(a:N×Wc×Wc->Prop):OwnFrom n (og b a):=λ_ _ _ _ h k q=>⟨h.1,tC h.2.1 k q,tC h.2.2 k q⟩
theorem tA{a:N×Wc×Wc->Prop}{p:Pl}(h:og n a p w)(k:Sw (Z w.1) w v):og n a p v:=XO (qn 0 n a) h k
theorem YZ(h:Xf w m (Z w.1) p l)(k:w.grownBy v (S n))(f:n<m):Xf v m (Z v.1) p l:=λi d=>by
 let⟨b,o,e,a,c⟩:=h i d;exact⟨b,o,e,⟨a.1,aX a.2 k.4⟩,G (Xc<|k.5 b a.2 λe2=>by injection e2 with e2;omega) c⟩
structure PM(n₀ bp:N)(p:Pl)(V:Ub):Prop where
 ge:n₀<=bp
 c0:E V ⟨bp,0,U⟩=S (X p.2 (J p.4) p.3)
 c1:E V ⟨bp,1,U⟩=S (X p.5 (J p.7) p.6)
theorem PM.own{p:Pl}:OwnFrom n (λ(_:Unit) V=>PM m k p V):=λ_ j V row h g q=>by
 have d:V.1[k]?=j.1[k]?:=by
  let⟨o,b,f⟩:=Yn h.2;refine g.5 k (aS.1 b).1 λe=>?_;let⟨_,i,a,c⟩:=q k e.symm;rw[show j.1[k]?=S o from b]at a;injection a with a;subst a;rw[f]at c;cases c
 exact⟨h.1,G (Xc d) h.2,G (Xc d) h.3⟩
theorem Zg(k:w.grownBy v (S m))(c:d m)(g:n<=Z w.1):Zf n d w v :=
 ⟨k.4,λi f a=>k.5 i O (λe=>a<|by injection e with e;rw[e];exact c),λi o a b _=>G (k.5 i (aS.1 b).1 λe=>a<|by injection e with e;rw[e];exact c) b⟩
theorem Jc(k:w.grownBy v (S n))(c:∃o:Obj,w.1[n]?=S o/\o.isCells=So):KeepsOthers w v :=
 KeepsOthers.of_grownBy k (λj o e h=>by
  let⟨d,a,b⟩:=c;injection e with e;subst e;rw[a]at h;injection h with h;rw[<-h];exact b)
theorem Cp.obj(h:Cp w n m k f):∃o:Obj,w.1[n]?=S o/\o.isCells=So:=by
 let⟨_,T,c,a,_⟩:=h;exact⟨_,a,R⟩
theorem CE{wr:Ub}(h:ZJ wr n s)(d:n<=Z wr.1)(e:Z wr.1<=m)(hK:w.1[m]?=S (.deferred (S [])))(b:∀k,n<=k->wr.1[k]?=S (.deferred (S []))->w.1[k]?=wr.1[k]?):ZJ w n (m::s):=by
 have c:=λk a=>(aS.1<|h.3 k a).1;refine⟨fL.2 ⟨λk=>by have:=c m k;omega,h.1⟩,λk a=>?_,λk a=>?_⟩
 .rcases cH.1 a with rfl|a;·omega
  exact h.2 k a
 obtain rfl|a:=cH.1 a;·exact hK
 exact G (b k (h.2 k a) (h.3 k a)) (h.3 k a)
def Pn(V:N)(q:N×Wc×Wc):Prop:=(∀v∈q.2.1,0<=v/\v<V)/\(∀v∈q.2.2,0<=v/\v<V)/\J q.2.1<=4000/\J q.2.2<=4000
theorem qF(a:Jy n x)(c:q∈x):∀d∈NS q,Pn n d:=λd hq=>by
 unfold NS at hq;have h:J (Id q.3)<=1:=by unfold Id;split<;>simp
 obtain rfl|hq:=cH.1 hq;·exact⟨a.7 q c,λv b=>Sz b eA,by show J (Id q.3)<=_;omega,sP⟩
 obtain hq|hq:=bU.1 hq
 .obtain⟨j,_,rfl⟩:=aY.1 hq;have f:=oU q.2[j];have g:J (BW q.2[j])<=1:=by unfold BW;split<;>simp
  exact⟨a.5 q c _<|aH _,a.6 q c _<|aH _,by show J (Iw q.2[j])<=_;omega,by show J (BW q.2[j])<=_;omega⟩
 rw[cS.1 hq];refine⟨λv b=>Sz b eA,λv b=>?_,sP,?_⟩
 .obtain⟨p,e,rfl⟩:=aY.1 b;exact a.8 q c p e
 show J (q.1.map Ph.dst)<=_;rw[bK];exact(a.10 q c).2
structure Po(w w':Ub)(n Kw:N)(xs:Wi)(Gi Go:N)(gi go ci:Wk)(WI WX:Vp):Prop where
 low:Sw (Z w.1) w w'
 si:XK w' Gi n Kw gi ci WI
 so:XK w' Go n Kw go (λ_=>Kw) WX
 wi:XQ WI
 wx:XQ WX
 b1:Z w.1<=Gi/\Z w.1<=Go
 b2:∀i,i<n->Z w.1<=gi i/\Z w.1<=go i
 inn:∃(I_ T W0:Vp)(ord:Wa),(∀i (h:i<J xs),I_ i=OS xs[i] (W0 i))/\(∀i (h:i<J xs),T i=OU xs[i])/\(∀b,b<J xs->∀v,Xh (W0 b) v=So↔(b,v)∈Nr xs (J xs))/\(∀b,b<J xs->b∈ord)/\(∀b,b<n->∀x,x<64*Kw->(Xh (WI b) x=So↔Sp I_ T (·∈ord) (X8 xs) b x))/\∀b,b<n->∀x,(Xh (WX b) x=So↔Xh (W0 b) x=So\/∃t∈X8 xs b,Xh (WI t) x=So)
section
theorem Cw{w:Ub}{b e s:N}{v:Uj}{n:N}{i:Wo}(h:Sx w b e s v n i){g:N}(a:v.ownBlock=S g):∃o:Obj,w.1[g]?=S o/\o.isCells=So:=by
 obtain⟨_,h|⟨c,j,l,rfl,_,f,_⟩⟩:=h;·rw[h.1]at a;cases a
 have e:c=g:=by simpa [Value.ownBlock]using a
 subst e;exact⟨_,f,R⟩
theorem YW.same{w b:Ub}{a c f K:N}{i:Uy}{m j:N}{W:Wk}{v:Uj}{L:Wa}(h:YW w a c f K i m j W v L)(l:b.1[a]?=w.1[a]?)(n:b.1[c]?=w.1[c]?)(o:∀g,v.ownBlock=S g->b.1[g]?=w.1[g]?)(r:Z w.1<=Z b.1):YW b a c f K i m j W v L:=by
 have e:∀q,E b (A a q)=E w (A a q):=λq=>bZ l;exact⟨G (e 0) h.1,G (e 1) h.2,G (e 2) h.3,λq=>G (bJ l) (h.4 q),h.5.of_block n,Zl h.6 o,h.7,h.8,h.9,aJ h.sz r⟩
section
variable {p: VD} {wr w4 W w5: Ub} {k: N} {d: PE} {gB CB: N} {ps: List Pl} {u5: Uj}
theorem uJ(g:∀q,q<Z wr.1->q≠p.9->w4.1[q]?=wr.1[q]?)(j:Z wr.1<=Z w4.1)(i:Z wr.1<=gB)(a:OO w4 gB (p.gd k) p.5 CB (p.WO k) ps W)(h:Sw (Z W.1) W w5):
 ∀q,q<Z wr.1->q≠p.9->q≠p.gd k->q≠p.Gn->(Se w5 ⟨p.Gn,k,U⟩ u5).1[q]?=wr.1[q]?:=λq b c e f=>by
 have:=a.4;exact G (Below.heap_setCell _ _ _ _ f) (G (h.5 q O) (G (a.5 q O O e) (g q b c)))
theorem B9(h:Oi p wr k d)(s:PO p)(j:k<p.n)(f:∀q,q<Z wr.1->q≠p.9->w4.1[q]?=wr.1[q]?)(l:Z wr.1<=Z w4.1)(i:Z wr.1<=gB)(b:OO w4 gB (p.gd k) p.5 CB (p.WO k) ps W)(c:Sw (Z W.1) W w5):
 YW (Se w5 ⟨p.Gn,k,U⟩ u5) p.bS p.gS p.M p.6 p.a p.n p.c d.6 d.7 d.8:=by
 have v:=h.2;have a:=uJ (u5:=u5) f l i b c;have m:=s.1;have o:=s.9;have r:=s.a6 k j;have t:=s.a8;have u:=s.a9;have n:=s.14;have w:=b.4;have x:=c.4;refine h.19.same (a _ O O O O) (a _ O O O O) (λg e=>?_) SF;have:=h.19.6.lt g e;exact a g O O O O
theorem Oi.round{j:Ub}{C:Xe}{K:N}{M:Wa}{m:Uy}{c5:N}{u:Uj}(o:Oi p wr k d)(s:PO p)(hq:O2 p k d)(hm:ZJ wr p.M M)(z:k<p.n)(P:k<J p.8)(ht:∀l,l<p.n->∀al∈X8 p.8 l,al<p.n)(F:∀q,q<Z wr.1->q≠p.9->w4.1[q]?=wr.1[q]?)(w:w4.4=wr.4/\w4.2=wr.2/\w4.5=wr.5)(af:Z wr.1<=Z w4.1)(y:Z wr.1<=gB)(aq:gB<Z w4.1)(T_:w4.rowIs p.9 113 p.n λi=>if i=k then X (S ⟨gB,0,U⟩) p.5 CB else if i<k then X (S ⟨d.1 i,0,U⟩) p.5 (d.2 i)else X U 0 0)(b:OO w4 gB (p.gd k) p.5 CB (p.WO k) ps W)(T:ps.map Pl.dat=NS C)(x:C=p.8[k])(hD:Z w4.1<=K)(V:W.1[K]?=S (.deferred (S [])))(c:Sw (Z W.1) W w5)(aa:Xf w5 (Z W.1) (Z w5.1) m C.3.tg)(a:Vh (Se w5 ⟨p.Gn,k,U⟩ (X m (J C.3.tg) c5)) j p.bS p.gS d.7 u)(hs:YW j p.bS p.gS p.M p.6 p.a p.n p.c (C9 (X8 p.8) p.n k (d.6,d.8)).1 u (C9 (X8 p.8) p.n k (d.6,d.8)).2):
 ∃C_,Oi p j (k+1) C_/\O2 p (k+1) C_/\ZJ j p.M (K::M):=by
 have hz:=o.2;have O_:=uJ (u5:=X m (J C.3.tg) c5) F af y b c;have a1:=s.1;have ap:=s.9;have a6:=s.a6 k z;have a8:=s.a8;have a9:=s.a9;have ao:=s.14;have ar:=b.4;have az:=c.4;have aj:=a.4;rw[Xd]at aj;have t:=λg e=>o.19.6.lt g e
 have L_:∀g,u.ownBlock=S g->d.7.ownBlock=S g\/Z w5.1<=g:=λg e=>by
  obtain q|q:=a.6;·exact bC<|by rw[<-q];exact e
  have:=q g e;rw[Xd]at this;exact aZ this
 have R_:=(aS.1 V).1;have B:∀q,Z wr.1<=q->q<Z w5.1->j.1[q]?=w5.1[q]?:=λq r f=>G (a.5 q (by rw[Xd];exact f) O O λe=>by have:=t q e.symm;omega) (Below.heap_setCell _ _ _ _<|by show q≠p.Gn;omega);have M_:∀q,q<Z wr.1->q≠p.Gn->q≠p.bS->q≠p.gS->S q≠d.7.ownBlock->j.1[q]?=W.1[q]?:=λq r f h n v=>G (a.5 q SF h n v) (G (Below.heap_setCell _ _ _ _ f) (c.5 q O));have L:∀q,q<p.M->S q≠d.7.ownBlock:=λq hq e=>by have:=t q e.symm;omega
 have I_:=λq r f h n v P_ Q_=>G (a.5 q SF v P_ Q_) (O_ q r f h n);have ad:(ps.map Pl.dat).foldl Ut (p.WO k)=OS p.8[k] (p.WO k):=by rw[T,<-x];rfl
 have ac:(ps.map Pl.dat).foldl Uo (λ_=>0)=OU p.8[k]:=by rw[T,<-x];rfl
 have Z_:Cp j gB p.5 CB (OS p.8[k] (p.WO k)):=by
  rw[<-ad];exact b.6.of_block<|G (B gB y O) (c.5 gB O)
 have S_:Cp j (p.gd k) p.5 p.5 (OU p.8[k]):=by
  rw[<-ac];exact b.7.of_block<|M_ _ O O O O (L _ O)
 have U_:=(T_.of_block<|b.5 p.9 O O O).of_block (M_ p.9 O O O O<|L _ O);have V_:w5.rowIs p.Gn 35 p.n (λi=>if i<k then d.5 i else Hq):=by
  refine((o.17.of_block<|F p.Gn O O).of_block (b.5 p.Gn O O O)).of_block (c.5 p.Gn O)
 have Y_:=(V_.set k<|.slice m (J C.3.tg) c5).of_block (a.5 p.Gn SF O O (L _ O));have K_:N6 p.8 k=C.3.tg:=by rw[VS P,x]
 refine⟨_,o.next s z (gB:=gB) (CB:=CB) (I':=OS p.8[k] (p.WO k)) (D':=OU p.8[k]) (nk:=X m (J C.3.tg) c5) (v':=u) (Ws':=(C9 (X8 p.8) p.n k (d.6,d.8)).1) (Lf':=(C9 (X8 p.8) p.n k (d.6,d.8)).2) (G a.1<|G c.1 (G b.1 w.1)) (G a.2<|G c.2 (G b.2 w.2.1)) (G a.3<|G c.3 (G b.3 w.2.2)) O I_ y Z_ U_ S_ Y_ ⟨m,c5,by rw[K_],?_⟩ hs ?_ ?_,hq.next z ht _ _ _ _ P R R,CE hm hz O ?_ ?_⟩
 .rw[K_];intro i hi;let⟨l,N_,e,hb,hc⟩:=aa i hi;refine⟨l,N_,e,⟨⟨O,O,λe2=>?_⟩,O⟩,G (Xc<|B l O hb.2) hc⟩;obtain q|q:=L_ l e2.symm;·have:=t l q;omega
  omega
 .rcases a.6 with q|q;·exact bC q
  exact aZ λg e=>by have:=q g e;rw[Xd]at this;omega
 .intro e;obtain q|q:=L_ gB e.symm;·have:=t gB q;omega
  omega
 .exact G (B K O O) (G (c.5 K R_) V)
 intro q r f;have ab:=(aS.1 f).1;refine I_ q ab O O O O O λe=>?_;let⟨N_,h,n⟩:=Cw o.19.6 e.symm;rw[f]at h;injection h with h;rw[<-h]at n;cases n
end
end
end Go.Proofs.YtnggdhnpjfigjaaGreatDoor
