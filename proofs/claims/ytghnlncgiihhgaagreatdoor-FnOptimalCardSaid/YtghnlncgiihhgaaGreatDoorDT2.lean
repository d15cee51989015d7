import Derived.Test.YtghnlncgiihhgaaGreatDoorDGc
namespace Go.Proofs.YtghnlncgiihhgaaGreatDoor
open Go.RowKit
variable{t z:Int}{l L:List Int}{x X:List Xe}{n m k:Nat}
theorem TC:∀(a c:List Xe)(k:Nat)(b:Int),a.length=c.length->(∀i (h:i<a.length) (g:i<c.length),a[i].te.tg=c[i].te.tg)->predsFrom a k b=predsFrom c k b
 | [],[],_,_,_,_=>rfl
 | [],_::_,_,_,h,_=>by simp at h
 | _::_,[],_,_,h,_=>by simp at h
 | x::a,y::c,k,b,h,ht=>by
  have d:=ht 0 sP sP;rw[eM,eM]at d;rw[predsFrom,predsFrom,d,TC a c (k+1) b (by simpa using h) (fun i e f=>by have:=ht (i+1) (by simpa using e) (by simpa using f);rwa[fO,fO]at this)]
theorem uq{x:Xe}(a:n<X.length)(h:x.te=X[n].te)(k:Nat)(b:Int):predsFrom (X.set n x) k b=predsFrom X k b :=
 TC _ _ _ _ sP (fun j c d=>by
  by_cases e:n=j
  ·subst e
   rw[cQ,h]
  ·rw[bI e])
theorem mu(c:List (List Int)):∀(b:List Int)(s:Sr)(a:List Int),(ZD c b s a).1.length=a.length+b.length
 | [],_,_=>rfl
 | p::b,s,a=>by
  rw[ZD,mu];simp only[aQ,bA,bO];omega
theorem Vr(b:List (List Int))(preds:List Int):∀(k j:Nat)(a:List Ph)(s:Sr),(JC b preds k j a s).1.length=a.length
 | 0,_,_,_=>rfl
 | k+1,j,a,s=>by rw[JC,Vr];simp
theorem nQ(c:List (List Int))(preds:List Int):∀(k j:Nat)(a:List Ph)(s:Sr),j+k=a.length->(∀m (h:m<a.length),m<j->a[m].args.length=preds.length)->(∀m (h:m<a.length),j<=m->a[m].args=[])->∀p∈(JC c preds k j a s).1,p.args.length=preds.length
 | 0,j,a,s,hj,h1,_,p,hp=>by
  obtain⟨m,b,rfl⟩:=bR hp;exact h1 m b (by have:m<a.length:=b;omega)
 | k+1,j,a,s,hj,h1,h2,p,hp=>by
  rw[JC]at hp;have d:j<a.length:=oM;refine nQ c preds k (j+1) _ _ (by simp;omega) (fun m b f=>?_) (fun m b f=>?_) p hp
  ·by_cases e:j=m
   ·subst e
    rw[cQ];show(ZD c preds s (a.getD j Wo).args).1.length=preds.length;rw[mu,show a.getD j Wo=a[j] by simp[d],h2 j d (aA _)];simp
   ·rw[bI e]
    exact h1 m (by simpa using b) oM
  ·rw[bI oM]
   exact h2 m (by simpa using b) oM
theorem nY(b:List (List Int)):∀(k i:Nat)(a:List Xe)(s:Sr),(ZL b k i a s).1.length=a.length
 | 0,_,_,_=>rfl
 | k+1,i,a,s=>by rw[ZL,nY];simp
theorem pS(d:List (List Int)):∀(k i:Nat)(a:List Xe)(s:Sr),i+k=a.length->(∀m (h:m<a.length),m<i->∀p∈a[m].ps,p.args.length=(predsFrom a 0 (m:Int)).length)->(∀m (h:m<a.length),i<=m->∀p∈a[m].ps,p.args=[])->d6 (ZL d k i a s).1
 | 0,i,a,s,hi,h1,_=>fun m c=>h1 m c (by have:m<a.length:=c;omega)
 | k+1,i,a,s,hi,h1,h2=>by
  rw[ZL];have e:i<a.length:=oM;have g:a.getD i XV=a[i]:=by simp[e]
  rw[g];refine pS d k (i+1) _ _ (by simp;omega) (fun m c j p b=>?_) (fun m c j p b=>?_)
  ·rw[uq (x:=⟨(JC d (predsFrom a 0 (i:Int)) a[i].ps.length 0 a[i].ps s).1,a[i].is,a[i].te⟩) e rfl]
   by_cases f:i=m
   ·subst f
    rw[cQ]at b;exact nQ d _ _ 0 _ _ (aV _) (fun _ _ h=>absurd h oM) (fun q hq _=>h2 i e (aA _) _ (aH hq)) p b
   ·rw[bI f]at b
    exact h1 m (by simpa using c) oM p b
  ·rw[bI oM]at b
   exact h2 m (by simpa using c) oM p b
theorem ld(d:Bool)(c:List Int):∀(k i:Nat)(g:GdR),(∀x∈g.xs,x.ps.length<=1000/\∀p∈x.ps,p.args=[])->∀x∈(Zm d c k i g).xs,x.ps.length<=1000/\∀p∈x.ps,p.args=[]
 | 0,_,_,h=>h
 | k+1,i,g,h=>by
  rw[Zm];refine ld d c k (i+1) _ (fun x a=>?_);rcases fE a with a | a
  ·exact h x a
  ·subst a
   refine⟨?_,fun p e=>?_⟩
   ·show(VK (Uy _ g.s).1 g.v).length<=1000
    rw[KI];have:=f9 (predsFrom g.xs 0 (i:Int)).length g.s;omega
   ·have b:p∈VK (Uy (predsFrom g.xs 0 (i:Int)).length g.s).1 g.v:=e
    unfold VK at b;obtain⟨j,_,rfl⟩:=aY.1 b;rfl
theorem mv(c:Bool)(b:List Int):∀(k i:Nat)(g:GdR),Jb g.s->(∀x∈g.xs,x.is.length<=1000)->∀x∈(Zm c b k i g).xs,x.is.length<=1000
 | 0,_,_,_,h=>h
 | k+1,i,g,hs,h=>by
  rw[Zm];refine mv c b k (i+1) _ (AU hs) (fun x a=>?_);rcases fE a with a | a
  ·exact h x a
  ·subst a
   have:=(BF (near:=c) (i:=i) (np:=(predsFrom g.xs 0 (i:Int)).length) (t:=(g.xs.getD i XV).te) (vs0:=if i=0 then []else g.ends.getD (b.getD i 0).toNat []) (v:=g.v) hs).2.2.2.1;exact aJ this oM
theorem n8(c:List (List Int)):∀(k i:Nat)(a:List Xe)(s:Sr)(m:Nat),i+k=a.length->(∀x∈a,x.ps.length<=m/\x.is.length<=m)->∀x∈(ZL c k i a s).1,x.ps.length<=m/\x.is.length<=m
 | 0,_,_,_,_,_,h=>h
 | k+1,i,a,s,m,hi,h=>by
  rw[ZL];have d:i<a.length:=oM;rw[show a.getD i XV=a[i] by simp[d]];refine n8 c k (i+1) _ _ m (by simp;omega) (fun x b=>?_);rcases fE b with b | b
  ·exact h x b
  ·subst b
   have:=h _ (aH d);refine⟨?_,this.2⟩;show(JC c _ _ 0 _ s).1.length<=m;rw[Vr];exact this.1
theorem Bv(ha:d6 x)(d:x.length<=1000)(h:∀a∈x,a.ps.length<=1000/\a.is.length<=1000):Kg x:=fun a b=>by
 refine⟨(h a b).1,fun p e=>?_,(h a b).2⟩;obtain⟨i,c,rfl⟩:=bR b;rw[ha i c p e];exact aJ (JP _ _ _) d
theorem vC(n:Nat)(a args:List Int)(z:Int):(Wy n a args z).length<=a.length:=by
 unfold Wy;exact aJ (mC _ _) sP
theorem nu(n:Nat)(b a args:List Int):(JH n b a args).length<=a.length*b.length:=by
 unfold JH
 induction a with
 | nil=>simp
 | cons z a c =>
  rw[jF,aQ,bA,jK,jL];have:=vC n b args z;omega
theorem nN(a:List Xe)(i:a.length<=11):∀(k b:Nat)(g:List Xe),g.length=a.length->b+k=g.length->(∀x∈g,x.ps.length<=1000/\(∀p∈x.ps,p.args.length<=1000)/\x.is.length<=1000)->Kg (Ks a k b g)
 | 0,_,_,_,_,h=>h
 | k+1,b,g,hg,hb,h=>by
  rw[Ks];have e:b<g.length:=oM;rw[show g.getD b XV=g[b] by simp[e]];refine nN a i k (b+1) _ (by simpa using hg) (by simp;omega) (fun x c=>?_);rcases fE c with c | c
  ·exact h x c
  ·subst c
   have d:=h _ (aH e);refine⟨by show(YD _ _ _ _).length<=1000;unfold YD;rw[bK];exact d.1,fun p j=>?_,d.2.2⟩;have f:p∈YD a.length (predsFrom a 0 (othN b a.length:Nat)) (predsFrom g 0 (b:Int)) g[b].ps:=j;unfold YD at f;obtain⟨q,_,rfl⟩:=aY.1 f;have l:=nu a.length (predsFrom a 0 (othN b a.length:Nat)) (predsFrom g 0 (b:Int)) q.args;have m:=JP a 0 ((othN b a.length:Nat):Int);have n:=JP g 0 (b:Int);show(JH _ _ _ q.args).length<=1000;have o:(predsFrom g 0 (b:Int)).length*(predsFrom a 0 ((othN b a.length:Nat):Int)).length<=11*11:=lO oM oM;omega
theorem wh(e:x.length<=11)(f:1<=x.length)(h:Kg x):Kg (Zh x):=by
 unfold Zh;refine nN x e _ 0 _ (by simp[YP]) (by simp[YP]) (fun i c=>?_);unfold YP at c;obtain⟨b,d,rfl⟩:=aY.1 c;have g:=bE.1 d;have a:othN b x.length<x.length:=by unfold othN;split<;>omega
 rw[show x.getD (othN b x.length) XV=x[othN b x.length] by simp[a]];have:=h _ (aH a);exact this
def PhA(a:List Xe):Prop:=∀x∈a,∀p∈x.ps,0<p.args.length
def PrB(a:List Xe):Prop:=∀i (h:i<a.length),0<a[i].ps.length->0<(predsFrom a 0 (i:Int)).length
theorem Bt(ha:d6 x)(c:PrB x):PhA x:=fun e d p b=>by
 obtain⟨i,a,rfl⟩:=bR d;rw[ha i a p b];exact c i a (eJ b)
theorem ai.b{t:Yj}(h:ai n k t)(b:1<=n)(a:n<=m):bg m t:=by
 rcases h with⟨rfl,_⟩ | ⟨q,rfl,h1,h2,_⟩ | ⟨q,r,rfl,h1,h2,h3,h4,_⟩
 ·exact⟨aZ (aZ rfl),by dsimp only;omega⟩
 ·exact⟨bC rfl,by dsimp only;omega⟩
 ·exact⟨aZ (bC rfl),by dsimp only;omega⟩
theorem xj{dead:Bool}{b:List Yj}{s:Sr}(g:b.length=n)(d:1<=n)(h:∀j (h:j<b.length),ai n j b[j]):∀t∈(ZI dead n b s).1,bg (ZI dead n b s).1.length t:=by
 have c:∀m,n<=m->∀t∈b,bg m t:=fun m f t a=>by
  obtain⟨j,e,rfl⟩:=bR a;exact(h j e).b d f
 unfold ZI;split
 ·split
  ·intro t a
   have i:=XE s (n:=(n:Int)-1) oM;rcases bU.1 a with a | a
   ·exact c _ (by simp;omega) t a
   ·simp only[cH,eA,lL]at a
    subst a;refine⟨bC rfl,?_⟩;dsimp only;simp only[aQ,bA,bO];omega
  ·intro t a
   rcases bU.1 a with a | a
   ·exact c _ (by simp;omega) t a
   ·simp only[cH,eA,lL]at a
    subst a;refine⟨aZ (aZ rfl),?_⟩;dsimp only;simp only[aQ,bA,bO];omega
 ·exact c _ (by show n<=b.length;omega)
theorem wJ{a:List Yj}(h:∀t∈a,bg a.length t):TgB (a.map Yt)/\PrB (a.map Yt):=by
 refine⟨fun x e=>?_,fun i c b=>?_⟩
 ·obtain⟨t,d,rfl⟩:=aY.1 e
  rw[bK];exact h t d
 ·rw[(KD a _ (aH c)).1]at b
  exact absurd b sP
theorem vh(a:Bool)(t:Yj)(b:List Int)(s:Sr):(terG a t b s).1.kind=t.kind/\(terG a t b s).1.to=t.to/\(terG a t b s).1.els=t.els:=by
 unfold terG;split
 ·exact⟨rfl,rfl,rfl⟩
 ·exact⟨rfl,rfl,rfl⟩
theorem wG{t u:Yj}(h:t.kind=u.kind/\t.to=u.to/\t.els=u.els):t.tg=u.tg:=by
 unfold Yj.tg;rw[h.1,h.2.1,h.2.2]
theorem uV{t u:Yj}(h:t.kind=u.kind/\t.to=u.to/\t.els=u.els)(a:bg n u):bg n t:=by
 unfold bg;rw[h.1,h.2.1,h.2.2];exact a
theorem pM{x:Xe}(f:TgB X)(i:PrB X)(g:n<X.length)(h:x.te.kind=X[n].te.kind/\x.te.to=X[n].te.to/\x.te.els=X[n].te.els)(l:0<x.ps.length->0<(predsFrom X 0 (n:Int)).length):TgB (X.set n x)/\PrB (X.set n x):=by
 have k:∀b:Int,predsFrom (X.set n x) 0 b=predsFrom X 0 b:=fun b=>TC _ _ _ _ sP (fun j d m=>by
  by_cases e:n=j
  ·subst e
   rw[cQ];exact wG h
  ·rw[bI e])
 refine⟨fun y a=>?_,fun j d c=>?_⟩
 ·rw[bL]
  rcases fE a with a | a
  ·exact f y a
  ·subst a
   exact uV h (f _ (aH g))
 ·rw[k]
  by_cases e:n=j
  ·subst e
   rw[cQ]at c;exact l c
  ·rw[bI e]at c
   exact i j (by simpa using d) c
theorem mj(c:Bool)(b:List Int):∀(k i:Nat)(g:GdR),i+k=g.xs.length->TgB g.xs->PrB g.xs->TgB (Zm c b k i g).xs/\PrB (Zm c b k i g).xs
 | 0,_,_,_,h1,h2=>⟨h1,h2⟩
 | k+1,i,g,hi,h1,h2=>by
  rw[Zm];have d:i<g.xs.length:=oM;have f:g.xs.getD i XV=g.xs[i]:=by simp[d]
  have e:=pM (x:=(VL c i (predsFrom g.xs 0 (i:Int)).length (g.xs.getD i XV).te (if i=0 then []else g.ends.getD (b.getD i 0).toNat []) g.v g.s).blk) h1 h2 d (by rw[f];exact vh _ _ _ _) (fun h=>by
   have a:0<(VK (Uy (predsFrom g.xs 0 (i:Int)).length g.s).1 g.v).length:=h;rw[KI]at a;unfold Uy at a;split at a
   ·omega
   ·split at a
    ·omega
    ·exact absurd a sP)
  exact mj c b k (i+1) _ (by simp;omega) e.1 e.2
theorem oy(b:List (List Int)):∀(k i:Nat)(a:List Xe)(s:Sr),i+k=a.length->TgB a->PrB a->TgB (ZL b k i a s).1/\PrB (ZL b k i a s).1
 | 0,_,_,_,_,h1,h2=>⟨h1,h2⟩
 | k+1,i,a,s,hi,h1,h2=>by
  rw[ZL];have c:i<a.length:=oM;rw[show a.getD i XV=a[i] by simp[c]];have e:=pM (x:=⟨(JC b (predsFrom a 0 (i:Int)) a[i].ps.length 0 a[i].ps s).1,a[i].is,a[i].te⟩) h1 h2 c ⟨rfl,rfl,rfl⟩ (fun f=>by
   have d:0<(JC b (predsFrom a 0 (i:Int)) a[i].ps.length 0 a[i].ps s).1.length:=f;rw[Vr]at d;exact h2 i c d)
  exact oy b k (i+1) _ _ (by simp;omega) e.1 e.2
theorem TU:∀(c:List Xe)(k:Nat)(b z:Int),z∈predsFrom c k b↔∃i,∃h:i<c.length,z=((k+i:Nat):Int)/\c[i].te.tg.contains b=true
 | [],_,_,_=>by simp[predsFrom]
 | x::c,k,b,z=>by
  rw[predsFrom,bU,TU c (k+1) b z];constructor
  ·rintro(h | ⟨i,e,d,a⟩)
   ·split at h
    ·rename_i f
     simp only[cH,eA,lL]at h;exact⟨0,sP,by rw[h];simp,by simpa using f⟩
    ·simp at h
   ·exact⟨i+1,by simpa using e,by rw[d];congr 1;omega,by simpa using a⟩
  ·rintro⟨i,e,d,a⟩
   cases i with
   | zero =>
    left;rw[eM]at a;rw[aU a,d];simp
   | succ i =>
    right;exact⟨i,by simpa using e,by rw[d];congr 1;omega,by simpa using a⟩
theorem UG{b:Nat}(h:b<n):othN b n<n:=by unfold othN;split<;>omega
theorem Ka{b:Nat}(h:b<n):othN (othN b n) n=b:=by unfold othN;split<;>split<;>omega
theorem ik{b:Nat}(h:b<n):J1 (b:Int) n=((othN b n:Nat):Int):=by
 unfold J1 othN;split
 ·rename_i a
  rw[aU oM];rfl
 ·rename_i a
  rw[aM oM];omega
theorem uY{args:List Int}(c:t∈l)(d:z∈L)(h:t=J1 z n):0<(JH n l L args).length:=by
 obtain⟨m,a,b⟩:=bR c;refine eJ (a:=args.getD m 0) ?_;unfold JH;refine bV.2 ⟨z,d,?_⟩;unfold Wy;refine List.mem_filterMap.2 ⟨m,bE.2 a,?_⟩;rw[aU];rw[<-h,<-b];simp[a]
theorem ux{t:Yj}{b:Nat}(e:b<n)(h:t.tg.contains ((othN b n:Nat):Int)=true):(YB n t).tg.contains (b:Int)=true:=by
 have c:J1 ((othN b n:Nat):Int) n=(b:Int):=by rw[ik (UG e),Ka e]
 unfold Yj.tg at h |-;unfold YB;dsimp only;split at h
 ·rename_i a
  rw[aU a,aU oM];simp only[List.contains_cons,List.contains_nil,jU,iA]at h;rw[<-h,c];simp
 ·rename_i a
  split at h
  ·rename_i d
   rw[aM a,aU d,aU oM,aU d];simp only[List.contains_cons,List.contains_nil,jU,dI,iA]at h;rcases h with h | h
   ·rw[<-h,c];simp
   ·rw[<-h,c];simp
  ·simp at h
theorem nL(a:List Xe)(q:PrB a):∀(k b:Nat)(g:List Xe),g.length=a.length->b+k=g.length->(∀j (m:j<g.length) (t:othN j a.length<a.length),g[j].te=YB a.length a[othN j a.length].te)->(∀j (m:j<g.length),j<b->∀p∈g[j].ps,0<p.args.length)->(∀j (m:j<g.length) (t:othN j a.length<a.length),b<=j->g[j].ps=a[othN j a.length].ps)->PhA (Ks a k b g)
 | 0,b,g,hg,hb,_,h1,_=>fun B y=>by
  obtain⟨j,c,rfl⟩:=bR y;exact h1 j c (by have:j<g.length:=c;omega)
 | k+1,b,g,hg,hb,ht,h1,h2=>by
  rw[Ks];have l:b<g.length:=oM;rw[show g.getD b XV=g[b] by simp[l]];refine nL a q k (b+1) _ (by simpa using hg) (by simp;omega) (fun j c f=>?_) (fun j c v p h=>?_) (fun j c f v=>?_)
  ·by_cases e:b=j
   ·subst e
    rw[cQ];exact ht b l f
   ·rw[bI e]
    exact ht j (by simpa using c) f
  ·by_cases e:b=j
   ·subst e
    rw[cQ]at h;have r:p∈YD a.length (predsFrom a 0 (othN b a.length:Nat)) (predsFrom g 0 (b:Int)) g[b].ps:=h;unfold YD at r;obtain⟨z,hq,rfl⟩:=aY.1 r;have n:b<a.length:=oM;have o:=UG n;rw[h2 b l o (aA _)]at hq;have x:=q _ o (eJ hq);obtain⟨A,s⟩:=List.exists_mem_of_length_pos x;obtain⟨i,d,e1,e2⟩:=(TU _ _ _ _).1 s;rw[aV]at e1;have w:=UG d;refine uY s (z:=((othN i a.length:Nat):Int)) ((TU _ _ _ _).2 ⟨othN i a.length,oM,sP,?_⟩) (by rw[ik w,Ka d];exact e1);have u:=ht (othN i a.length) oM (by rw[Ka d];exact d);rw[u];refine ux n ?_;have e3:a[othN (othN i a.length) a.length]'(by rw[Ka d];exact d)=a[i]:=by congr 1;exact Ka d
    rw[e3];exact e2
   ·rw[bI e]at h
    exact h1 j (by simpa using c) oM p h
  ·rw[bI oM]
   exact h2 j (by simpa using c) f oM
theorem vV(d:PrB x):PhA (Zh x):=by
 unfold Zh;have c:(YP x).length=x.length:=by simp[YP]
 refine nL x d _ 0 _ c oM (fun j b a=>?_) (fun j b h=>absurd h oM) (fun j b a _=>?_)
 ·simp[YP,a]
 ·simp[YP,a]
theorem Ai(h:PhA x):PhA (Tm n x):=fun d b p a=>by
 unfold Tm at b;obtain⟨y,c,rfl⟩:=aY.1 b;unfold Jp at a;obtain⟨q,hq,rfl⟩:=aY.1 a;have:=h y c q hq;simpa using this
theorem zB(h:Kg x):Kg (Tm n x):=fun d b=>by
 unfold Tm at b;obtain⟨y,c,rfl⟩:=aY.1 b;have:=h y c;refine⟨by unfold Jp;simpa using this.1,fun p a=>?_,by unfold Jp;simpa using this.2.2⟩;unfold Jp at a;obtain⟨q,hq,rfl⟩:=aY.1 a;have:=this.2.1 q hq;simpa using this
section
def Kb(w:World)(lab:Nat->Nat × Nat × Nat)(L:Nat × Nat × Nat)(base:Nat)(v:Value)(a:List Int):Prop :=
 ∃d c,v=.slice d a.length c/\∀i (h:i<a.length),∃q o,d=some ⟨q,o,none⟩/\(base<=q/\q<w.heap.size)/\lab q=L/\w.cell? ⟨q,o+i,none⟩=some (.int .i64 a[i])
theorem Xv.intsL{w:World}{lab:Nat->Nat × Nat × Nat}{L:Nat × Nat × Nat}{base:Nat}{v:Value}{a:List Int}(h:Xv w lab L base 2 1 v a.length (Xt a)):Kb w lab L base v a:=by
 obtain⟨d,c,e⟩:=h.form;subst e;refine⟨d,c,rfl,fun j f=>?_⟩;obtain⟨g,i,e⟩:=h.got oM;cases e;exact⟨g,0,rfl,h.blk.1,h.blk.2,by rw[aV];exact h.cell (by unfold Xt;simp[f])⟩
theorem Kb.sp{w w':World}{lab lab':Nat->Nat × Nat × Nat}{L:Nat × Nat × Nat}{base:Nat}{v:Value}{a:List Int}{ok:Nat->Prop}(h:Kb w lab L base v a)(k:XW w w' lab lab' base ok)(g:∀b,lab b=L->ok b):Kb w' lab' L base v a:=by
 obtain⟨d,c,e,h⟩:=h;refine⟨d,c,e,fun i f=>?_⟩;obtain⟨q,o,e1,e2,e3,e4⟩:=h i f;have:=k.same q e2.1 e2.2 (g q e3);exact⟨q,o,e1,⟨e2.1,aX e2.2 k.size⟩,this.2.trans e3,(Xc this.1).trans e4⟩
theorem Kb.nil{w:World}{lab:Nat->Nat × Nat × Nat}{L:Nat × Nat × Nat}{base:Nat}:Kb w lab L base (.slice none 0 0) []:=⟨none,0,rfl,fun i a=>absurd a sP⟩
theorem B8{w:World}{lab:Nat->Nat × Nat × Nat}{base l n c:Nat}{xs:List Xe}{pv iv:Nat->Value}{av:Nat->Nat->Value}(t:Xv w lab (1,0,0) base 90 6 (.slice (some ⟨l,0,none⟩) n c) xs.length (XF pv iv xs))(z:∀i (v:i<xs.length),Xv w lab (2,i,0) base 96 2 (pv i) xs[i].ps.length (Yh (av i) xs[i].ps))(x:∀i (v:i<xs.length),Xv w lab (3,i,0) base 98 5 (iv i) xs[i].is.length (YC xs[i].is))(F:∀i (v:i<xs.length) j (h:j<xs[i].ps.length),Kb w lab (4,i,j) base (av i j) xs[i].ps[j].args):Xp w base w.heap.size (some ⟨l,0,none⟩) xs:=fun i f=>by
 have I:=ZW t;subst I;obtain⟨N,a,r⟩:=(z i f).form;obtain⟨J,K,o⟩:=(x i f).form;have e:∀q u,q<6->(UT (pv i) (iv i) xs[i].te)[q]?=some u->w.cell? ⟨l,i*6+q,none⟩=some u:=fun q u hq k=>t.cell (by
  unfold XF;rw[Xz (fun _ _=>KU _ _ _) 0 xs i f q hq,aV];exact k)
 refine⟨l,0,rfl,t.blk.1,N,a,J,K,?_,?_,⟨?_,?_,?_,?_⟩,fun j h=>?_,fun j h=>?_⟩
 ·rw[aV];exact e 0 _ oM (by rw[<-r];rfl)
 ·rw[aV];exact e 1 _ oM (by rw[<-o];rfl)
 ·rw[aV];exact e 2 _ oM rfl
 ·rw[aV];exact e 3 _ oM rfl
 ·rw[aV];exact e 4 _ oM rfl
 ·rw[aV];exact e 5 _ oM rfl
 ·have d:=z i f
  obtain⟨g,D,m⟩:=d.got oM;rw[m]at r d;cases r;obtain⟨A,C,E,ha⟩:=F i f j h;have a:∀q u,q<2->([.int .i64 xs[i].ps[j].dst,av i j]:List Value)[q]?=some u->w.cell? ⟨g,j*2+q,none⟩=some u:=fun q u hq k=>d.cell (by
   unfold Yh;rw[Xz (sz:=2) (fun _ _=>rfl) 0 xs[i].ps j h q hq,aV];exact k)
  refine⟨g,0,rfl,d.blk.1,A,C,by rw[aV];exact a 0 _ oM rfl,by rw[aV];exact a 1 _ oM (by rw[<-E];rfl),fun L H=>?_⟩;obtain⟨q,M,e1,e2,_,e4⟩:=ha L H;exact⟨q,M,e1,e2,e4⟩
 ·have d:=x i f
  obtain⟨g,D,m⟩:=d.got oM;rw[m]at o d;cases o;have a:∀q u,q<5->(xs[i].is[j].cells)[q]?=some u->w.cell? ⟨g,j*5+q,none⟩=some u:=fun q u hq k=>d.cell (by
   unfold YC;rw[Xz (sz:=5) (fun _ _=>rfl) 0 xs[i].is j h q hq];exact k)
  exact⟨g,0,rfl,d.blk.1,by rw[aV];exact a 0 _ oM rfl,by rw[aV];exact a 1 _ oM rfl,by rw[aV];exact a 2 _ oM rfl,by rw[aV];exact a 3 _ oM rfl,by rw[aV];exact a 4 _ oM rfl⟩
theorem vk{pv iv:Nat->Value}{xs:List Xe}{i:Nat}(k:i<xs.length)(x:Xe)(p q:Value):XF (fun j=>if j=i then p else pv j) (fun j=>if j=i then q else iv j) (xs.set i x)=((((((XF pv iv xs).set (i*6) p).set (i*6+1) q).set (i*6+2) (.int .i64 x.te.kind)).set (i*6+3) (.int .i64 x.te.a)).set (i*6+4) (.int .i64 x.te.to)).set (i*6+5) (.int .i64 x.te.els):=by
 refine iG (fun r=>?_);have g:(XF pv iv xs).length=xs.length*6:=Zn (sz:=6) (fun _ _=>rfl) _ _;have o:(XF (fun j=>if j=i then p else pv j) (fun j=>if j=i then q else iv j) (xs.set i x)).length=xs.length*6:=(Zn (sz:=6) (fun _ _=>rfl) 0 (xs.set i x)).trans sP;by_cases t:r<xs.length*6
 ·have a:r / 6<xs.length:=oM
  have l:r / 6<(xs.set i x).length:=by simpa using a
  have f:r=r / 6*6+r % 6:=oM;have d:r % 6<6:=dS _ vY;generalize r / 6=j at *;generalize r % 6=m at *;subst f;have h:(XF (fun j=>if j=i then p else pv j) (fun j=>if j=i then q else iv j) (xs.set i x))[j*6+m]?=(UT (if j=i then p else pv j) (if j=i then q else iv j) (xs.set i x)[j].te)[m]?:=by
   unfold XF;rw[Xz (sz:=6) (fun _ _=>rfl) 0 (xs.set i x) j (by simpa using a) m d,aV]
  rw[h];by_cases e:j=i
  ·subst e
   rw[aU rfl,aU rfl,cQ];simp only[kG,g]
   match m,d with
   | 0,_=>simp[UT];omega
   | 1,_=>simp[UT];omega
   | 2,_=>simp[UT];omega
   | 3,_=>simp[UT];omega
   | 4,_=>simp[UT];omega
   | 5,_=>simp[UT];omega
  ·rw[aM e,aM e,bI (fun e2=>e e2.symm)]
   rw[dZ oM,dZ oM,dZ oM,dZ oM,dZ oM,dZ oM];unfold XF;rw[Xz (sz:=6) (fun _ _=>rfl) 0 xs j a m d,aV]
 ·rw[dK oM,dK (by simp only[bL];omega)]
structure Z4(w wr:World)(lab:Nat->Nat × Nat × Nat)(base sb B:Nat)(s:Sr)(V:Int)(G n c:Nat)(xs:List Xe)(pv iv:Nat->Value)(av:Nat->Nat->Value)(b xb:Nat)(p:Value)(y:Xe)(ay:Nat->Value):Prop where
 blks:Xv wr lab (1,0,0) base 90 6 (.slice (some ⟨G,0,none⟩) n c) xs.length (XF pv iv xs)
 ps:∀i (h:i<xs.length),i≠b->Xv wr lab (2,i,0) base 96 2 (pv i) xs[i].ps.length (Yh (av i) xs[i].ps)
 ins:∀i (h:i<xs.length),i≠b->Xv wr lab (3,i,0) base 98 5 (iv i) xs[i].is.length (YC xs[i].is)
 args:∀i (h:i<xs.length) j (hj:j<xs[i].ps.length),i≠b->Kb wr lab (4,i,j) base (av i j) xs[i].ps[j].args
 yph:Xv wr lab (2,b,0) base 96 2 p y.ps.length (Yh ay y.ps)
 yin:Xv wr lab (3,b,0) base 98 5 (iv b) y.is.length (YC y.is)
 yar:∀j (hj:j<y.ps.length),Kb wr lab (4,b,j) base (ay j) y.ps[j].args
 dr:ZQ wr sb B s
 bb:B<=base
 os:wr.os=w.os
 tape:wr.tape=w.tape
 output:wr.output=w.output
 size:w.heap.size<=wr.heap.size
 low:∀q,q<base->q≠sb->wr.heap[q]?=w.heap[q]?
 fr:∀q,wr.heap.size<=q->lab q=(0,0,0)
 bs:base<=w.heap.size
 box:Bx wr w.heap.size #[.int .i64 V,.slice (some ⟨G,0,none⟩) n c] 25
 boxl:lab w.heap.size=(0,0,0)
 res:Bx wr (w.heap.size+1) #[.int .i64 0,.slice none 0 0] 25
 resl:lab (w.heap.size+1)=(0,0,0)
 xbx:Bx wr xb #[p,iv b,.int .i64 y.te.kind,.int .i64 y.te.a,.int .i64 y.te.to,.int .i64 y.te.els] 90
 xbl:lab xb=(0,0,0)
 xlt:w.heap.size+1<xb
variable {w wr w' : World} {lab lab' : Nat -> Nat × Nat × Nat} {base sb B : Nat} {s s' : Sr} {V V' : Int} {G n c : Nat} {xs : List Xe} {pv iv : Nat -> Value} {av : Nat -> Nat -> Value} {b xb : Nat} {p p' : Value} {y y' : Xe} {ay ay' : Nat -> Value}
theorem Z4.step{o:Nat->Prop}(h:Z4 w wr lab base sb B s V G n c xs pv iv av b xb p y ay)(k:XW wr w' lab lab' base o)(f:∀q,(lab q).1≠0->(lab q).2.1≠b\/(lab q).1=1->o q)
 (E:Xv w' lab' (2,b,0) base 96 2 p' y'.ps.length (Yh ay' y'.ps)) (D:Xv w' lab' (3,b,0) base 98 5 (iv b) y'.is.length (YC y'.is)) (C:∀j (m:j<y'.ps.length),Kb w' lab' (4,b,j) base (ay' j) y'.ps[j].args)
 (dr:ZQ w' sb B s') (t:w'.os=wr.os) (x:w'.tape=wr.tape) (u:w'.output=wr.output) (low:∀q,q<base->q≠sb->w'.heap[q]?=wr.heap[q]?)
 (box:Bx w' w.heap.size #[.int .i64 V',.slice (some ⟨G,0,none⟩) n c] 25) (r:lab' w.heap.size=(0,0,0)) (res:Bx w' (w.heap.size+1) #[.int .i64 0,.slice none 0 0] 25) (v:lab' (w.heap.size+1)=(0,0,0)) (A:Bx w' xb #[p',iv b,.int .i64 y'.te.kind,.int .i64 y'.te.a,.int .i64 y'.te.to,.int .i64 y'.te.els] 90) (z:lab' xb=(0,0,0)):Z4 w w' lab' base sb B s' V' G n c xs pv iv av b xb p' y' ay':=by
 refine⟨h.blks.sp k (fun q e=>f q (by rw[e];simp) (aZ (by rw[e]))),fun i d a=>(h.ps i d a).sp k (fun q e=>f q (by rw[e];simp) (bC (by rw[e];exact a))),fun i d a=>(h.ins i d a).sp k (fun q e=>f q (by rw[e];simp) (bC (by rw[e];exact a))),fun i d j m a=>(h.args i d j m a).sp k (fun q e=>f q (by rw[e];simp) (bC (by rw[e];exact a))),E,D,C,dr,h.bb,t.trans h.os,x.trans h.tape,u.trans h.output,aJ h.size k.size,fun q g l=>(low q g l).trans (h.low q g l),k.fresh h.fr,h.bs,box,r,res,v,A,z,h.xlt⟩
theorem Z4.lt(h:Z4 w wr lab base sb B s V G n c xs pv iv av b xb p y ay):sb<base:=oP h.bb h.dr.bB
theorem Z4.call(h:Z4 w wr lab base sb B s V G n c xs pv iv av b xb p y ay)(g:wr.grownBy w' (some sb))(d:ZQ w' sb B s'):Z4 w w' lab base sb B s' V G n c xs pv iv av b xb p y ay:=by
 have k:XW wr w' lab lab base (fun _=>True):=XW.grown g h.lt;have m:=h.lt;have l:=h.bs;have r:=h.xlt;have o:=h.size;exact h.step k (fun _ _ _=>trivial) (h.yph.sp k (fun _ _=>trivial)) (h.yin.sp k (fun _ _=>trivial)) (fun j f=>(h.yar j f).sp k (fun _ _=>trivial)) d g.os g.tape g.output (fun q i a=>g.block q oM (fun e=>a (by injection e))) (h.box.grown g (by intro e;injection e;omega)) h.boxl (h.res.grown g (by intro e;injection e;omega)) h.resl (h.xbx.grown g (by intro e;injection e;omega)) h.xbl
theorem Z4.drew(h:Z4 w wr lab base sb B s V G n c xs pv iv av b xb p y ay):Z4 w wr.drew lab base sb B s V G n c xs pv iv av b xb p y ay:=h.call ⟨rfl,rfl,rfl,aA _,fun _ _ _=>rfl⟩ h.dr.drew
theorem Z4.alloc(h:Z4 w wr lab base sb B s V G n c xs pv iv av b xb p y ay)(o:Obj):Z4 w (wr.alloc o) lab base sb B s V G n c xs pv iv av b xb p y ay:=h.call (bW wr o (some sb)) (h.dr.box o)
theorem Z4.putB{g q:Nat}{u:Value}{t:Yj}(h:Z4 w wr lab base sb B s V G n c xs pv iv av b xb p y ay)(f:lab g=(0,0,0))(o:base<=g)(i:w.heap.size+1≠g)
 (box:Bx (wr.setCell ⟨g,q,none⟩ u) w.heap.size #[.int .i64 V',.slice (some ⟨G,0,none⟩) n c] 25) (m:Bx (wr.setCell ⟨g,q,none⟩ u) xb #[p,iv b,.int .i64 t.kind,.int .i64 t.a,.int .i64 t.to,.int .i64 t.els] 90):Z4 w (wr.setCell ⟨g,q,none⟩ u) lab base sb B s V' G n c xs pv iv av b xb p ⟨y.ps,y.is,t⟩ ay:=by
 have k:XW wr (wr.setCell ⟨g,q,none⟩ u) lab lab base (fun b=>b≠g):=XW.put g q u;have d:∀q,(lab q).1≠0->q≠g:=fun q a e=>a (by rw[e,f])
 have:=h.bb;exact h.step k (fun q a _=>d q a) (h.yph.sp k (fun q e=>d q (by rw[e];simp))) (h.yin.sp k (fun q e=>d q (by rw[e];simp))) (fun l j=>(h.yar l j).sp k (fun q e=>d q (by rw[e];simp))) (h.dr.put oM) rfl rfl rfl (fun q a _=>Below.heap_setCell _ _ _ _ (by show q≠g;omega)) box h.boxl (h.res.other i) h.resl m h.xbl
theorem Z4.putV(h:Z4 w wr lab base sb B s V G n c xs pv iv av b xb p y ay)(z:Int):Z4 w (wr.setCell ⟨w.heap.size,0,none⟩ (.int .i64 z)) lab base sb B s z G n c xs pv iv av b xb p y ay:=by
 have:=h.xlt;refine h.putB (t:=y.te) h.boxl h.bs oM ?_ (h.xbx.other oM);have:=h.box.set 0 (.int .i64 z);simpa using this
theorem Z4.putT(h:Z4 w wr lab base sb B s V G n c xs pv iv av b xb p y ay)(t:Yj)(q:Nat)(u:Value)(hq:(#[p,iv b,.int .i64 y.te.kind,.int .i64 y.te.a,.int .i64 y.te.to,.int .i64 y.te.els]:Array Value).setIfInBounds q u=#[p,iv b,.int .i64 t.kind,.int .i64 t.a,.int .i64 t.to,.int .i64 t.els]):Z4 w (wr.setCell ⟨xb,q,none⟩ u) lab base sb B s V G n c xs pv iv av b xb p ⟨y.ps,y.is,t⟩ ay:=by
 have:=h.xlt;have:=h.bs;refine h.putB h.xbl oM oM (h.box.other oM) ?_;have:=h.xbx.set q u;rw[hq]at this;exact this
structure SpO(w w':World)(base sb:Nat)(a:Option Addr)(xs:List Xe):Prop where
 at_:Xp w' base w'.heap.size a xs
 os:w'.os=w.os
 tape:w'.tape=w.tape
 output:w'.output=w.output
 size:w.heap.size<=w'.heap.size
 low:∀q,q<base->q≠sb->w'.heap[q]?=w.heap[q]?
theorem Z4.done{u0 u1:Value}(h:Z4 w wr lab base sb B s V G n c xs pv iv av b xb p y ay)(a:b<xs.length):SpO w ((((((((wr.setCell ⟨G,b*6,none⟩ p).setCell ⟨G,b*6+1,none⟩ (iv b)).setCell ⟨G,b*6+2,none⟩ (.int .i64 y.te.kind)).setCell ⟨G,b*6+3,none⟩ (.int .i64 y.te.a)).setCell ⟨G,b*6+4,none⟩ (.int .i64 y.te.to)).setCell ⟨G,b*6+5,none⟩ (.int .i64 y.te.els)).setCell ⟨w.heap.size+1,0,none⟩ u0).setCell ⟨w.heap.size+1,1,none⟩ u1) base sb (some ⟨G,0,none⟩) (xs.set b y):=by
 have C:=ZW h.blks;subst C;have A:=h.blks.blk.2;have f:=h.blks.blk.1.1;have E:=h.bs;have D:XW wr ((((((wr.setCell ⟨G,b*6,none⟩ p).setCell ⟨G,b*6+1,none⟩ (iv b)).setCell ⟨G,b*6+2,none⟩ (.int .i64 y.te.kind)).setCell ⟨G,b*6+3,none⟩ (.int .i64 y.te.a)).setCell ⟨G,b*6+4,none⟩ (.int .i64 y.te.to)).setCell ⟨G,b*6+5,none⟩ (.int .i64 y.te.els)) lab lab base (fun b=>b≠G) :=
  ((((((XW.put G _ _).trans (XW.put G _ _)).trans (XW.put G _ _)).trans (XW.put G _ _)).trans (XW.put G _ _)).trans (XW.put G _ _)).weak (fun b a=>⟨⟨⟨⟨⟨a,a⟩,a⟩,a⟩,a⟩,a⟩)
 have u:XW ((((((wr.setCell ⟨G,b*6,none⟩ p).setCell ⟨G,b*6+1,none⟩ (iv b)).setCell ⟨G,b*6+2,none⟩ (.int .i64 y.te.kind)).setCell ⟨G,b*6+3,none⟩ (.int .i64 y.te.a)).setCell ⟨G,b*6+4,none⟩ (.int .i64 y.te.to)).setCell ⟨G,b*6+5,none⟩ (.int .i64 y.te.els)) ((((((((wr.setCell ⟨G,b*6,none⟩ p).setCell ⟨G,b*6+1,none⟩ (iv b)).setCell ⟨G,b*6+2,none⟩ (.int .i64 y.te.kind)).setCell ⟨G,b*6+3,none⟩ (.int .i64 y.te.a)).setCell ⟨G,b*6+4,none⟩ (.int .i64 y.te.to)).setCell ⟨G,b*6+5,none⟩ (.int .i64 y.te.els)).setCell ⟨w.heap.size+1,0,none⟩ u0).setCell ⟨w.heap.size+1,1,none⟩ u1) lab lab base (fun b=>b≠w.heap.size+1):=((XW.put _ _ _).trans (XW.put _ _ _)).weak (fun b a=>⟨a,a⟩);have v:∀q,(lab q).1≠0->q≠w.heap.size+1:=fun q d e=>d (by rw[e,h.resl])
 have g:∀q,(lab q).1≠0->lab q≠(1,0,0)->q≠G/\q≠w.heap.size+1:=fun q d a=>⟨fun e=>a (by rw[e];exact A),v q d⟩
 have k:=D.trans u;have r:=(((((h.blks.set (b*6) p).set (b*6+1) (iv b)).set (b*6+2) (.int .i64 y.te.kind)).set (b*6+3) (.int .i64 y.te.a)).set (b*6+4) (.int .i64 y.te.to)).set (b*6+5) (.int .i64 y.te.els);rw[<-vk a]at r;have t:base<=w.heap.size+1:=oM;have l:=((((((((Below.refl base wr).setCell (p:=⟨G,b*6,none⟩) f p).setCell (p:=⟨G,b*6+1,none⟩) f (iv b)).setCell (p:=⟨G,b*6+2,none⟩) f (.int .i64 y.te.kind)).setCell (p:=⟨G,b*6+3,none⟩) f (.int .i64 y.te.a)).setCell (p:=⟨G,b*6+4,none⟩) f (.int .i64 y.te.to)).setCell (p:=⟨G,b*6+5,none⟩) f (.int .i64 y.te.els)).setCell (p:=⟨w.heap.size+1,0,none⟩) t u0).setCell (p:=⟨w.heap.size+1,1,none⟩) t u1;have z:=r.sp u (fun q e=>v q (by rw[e];simp));refine⟨B8 (xs:=xs.set b y) (n:=xs.length) (c:=c) (pv:=fun j=>if j=b then p else pv j) (iv:=fun j=>if j=b then iv b else iv j) (av:=fun j=>if j=b then ay else av j) (by rw[bL];exact z) (fun i m=>?_) (fun i m=>?_) (fun i m j o=>?_),l.os.trans h.os,l.tape.trans h.tape,l.output.trans h.output,aJ h.size l.size,fun q d x=>(l.block q d).trans (h.low q d x)⟩
 ·by_cases e:i=b
  ·subst e
   simp only[aU,cQ];exact h.yph.sp k (fun b e=>g b (by rw[e];simp) (by rw[e];simp))
  ·simp only[aM e,bI (fun e2=>e e2.symm)]
   exact(h.ps i (by simpa using m) e).sp k (fun b e=>g b (by rw[e];simp) (by rw[e];simp))
 ·by_cases e:i=b
  ·subst e
   simp only[aU,cQ];exact h.yin.sp k (fun b e=>g b (by rw[e];simp) (by rw[e];simp))
  ·simp only[aM e,bI (fun e2=>e e2.symm)]
   exact(h.ins i (by simpa using m) e).sp k (fun b e=>g b (by rw[e];simp) (by rw[e];simp))
 ·by_cases e:i=b
  ·subst e
   simp only[cQ]at o |-;simp only[aU];exact(h.yar j o).sp k (fun b e=>g b (by rw[e];simp) (by rw[e];simp))
  ·simp only[bI (fun e2=>e e2.symm)]at o |-
   simp only[aM e];exact(h.args i (by simpa using m) j o e).sp k (fun b e=>g b (by rw[e];simp) (by rw[e];simp))
theorem LsS.hand{v:Nat}(h:LsS w wr lab base sb B s v G n c xs pv iv av)(e:b<xs.length):Z4 w (wr.alloc (.cells #[pv b,iv b,.int .i64 xs[b].te.kind,.int .i64 xs[b].te.a,.int .i64 xs[b].te.to,.int .i64 xs[b].te.els] 90)) lab base sb B s (v:Int) G n c xs pv iv av b wr.heap.size (pv b) xs[b] (av b):=by
 have a:=h.alloc (.cells #[pv b,iv b,.int .i64 xs[b].te.kind,.int .i64 xs[b].te.a,.int .i64 xs[b].te.to,.int .i64 xs[b].te.els] 90);exact⟨a.fn.blks,fun i d _=>a.fn.ps i d,fun i d _=>a.fn.ins i d,fun i d j f _=>(a.fn.args i d j f).intsL,a.fn.ps b e,a.fn.ins b e,fun j f=>(a.fn.args b e j f).intsL,a.dr,a.bb,a.os,a.tape,a.output,a.size,a.low,fun q hq=>a.fr q (aJ a.size hq),a.bs,a.box,a.fr _ (aA _),a.res,a.fr _ oM,Bx.new _ _ _,a.fr _ h.size,h.res.lt⟩
end
section
variable {w wr w' w8 : World} {lab lab' : Nat -> Nat × Nat × Nat} {base sb B : Nat} {s s' : Sr} {V V' : Int} {G n c : Nat} {xs : List Xe} {pv iv : Nat -> Value} {av : Nat -> Nat -> Value} {b xb : Nat} {p p' : Value} {y y' : Xe} {ay ay' : Nat -> Value}
theorem Vv{ps:List Ph}{j:Nat}{q:Ph}{v:Value}(a:j<ps.length)(hq:q.dst=ps[j].dst):Yh (fun m=>if m=j then v else ay m) (ps.set j q)=(Yh ay ps).set (j*2+1) v:=by
 unfold Yh;exact Yr (f:=fun j (p:Ph)=>[Value.int .i64 p.dst,ay j]) (f':=fun j (p:Ph)=>[Value.int .i64 p.dst,if j=_ then v else ay j]) (sz:=2) (fun _ _=>rfl) 0 ps j a q 1 v oM (by rw[aV,aU rfl,hq];rfl) (fun m e d=>by rw[aV,aM d])
theorem Z4.setPh{a E F j:Nat}{v:Value}{f:List Int}(h:Z4 w wr lab base sb B s V G n c xs pv iv av b xb p y ay)(x:p=.slice (some ⟨a,0,none⟩) E F)(r:j<y.ps.length)(A:Kb wr lab (4,b,j) base v f) :
 Z4 w (wr.setCell ⟨a,j*2+1,none⟩ v) lab base sb B s V G n c xs pv iv av b xb p ⟨y.ps.set j ⟨y.ps[j].dst,f⟩,y.is,y.te⟩ (fun m=>if m=j then v else ay m):=by
 subst x;have g:=h.yph;have u:=ZW g;subst u;have o:=g.blk.2;have H:=g.blk.1.1;have k:XW wr (wr.setCell ⟨a,j*2+1,none⟩ v) lab lab base (fun b=>b≠a):=XW.put a _ v;have d:∀q,lab q≠(2,b,0)->q≠a:=fun q i e=>i (by rw[e,o])
 have:=h.bb;have C:=d _ (by rw[h.boxl];simp);have D:=d _ (by rw[h.xbl];simp);refine h.step k (fun q i l=>d q (fun e=>by rw[e]at l;simp at l)) ?_ (h.yin.sp k (fun q e=>d q (by rw[e];simp))) (fun m t=>?_) (h.dr.put oM) rfl rfl rfl (fun q i _=>Below.heap_setCell _ _ _ _ (by show q≠a;omega)) (h.box.other C) h.boxl (h.res.other (d _ (by rw[h.resl];simp))) h.resl (h.xbx.other D) h.xbl
 ·have z:=g.set (j*2+1) v
  show Xv _ lab (2,b,0) base 96 2 _ (y.ps.set j ⟨y.ps[j].dst,f⟩).length (Yh (fun m=>if m=j then v else ay m) (y.ps.set j ⟨y.ps[j].dst,f⟩));rw[bL,Vv (q:=⟨y.ps[j].dst,f⟩) r rfl];exact z
 ·by_cases e:m=j
  ·subst e
   simp only[cQ,aU];exact A.sp k (fun q e=>d q (by rw[e];simp))
  ·simp only[bI (fun e2=>e e2.symm),aM e]
   exact(h.yar m (by simpa using t)).sp k (fun q e=>d q (by rw[e];simp))
theorem Z4.push{o:Obj}{A:Nat}{g:Value}(i:Z4 w wr lab base sb B s V G n c xs pv iv av b xb p y ay)(f:(wr.alloc o).grownBy w8 p.ownBlock)(M:w8.ownsRow base 96 2 g A (Yh ay y.ps++[.int .i64 0,.slice none 0 0]))(L:A=y.ps.length+1)(H:g.ownBlock=p.ownBlock\/g.ownBlock=some (wr.alloc o).heap.size) :
 Bx w8 xb #[p,iv b,.int .i64 y.te.kind,.int .i64 y.te.a,.int .i64 y.te.to,.int .i64 y.te.els] 90/\∃lab',Z4 w (w8.setCell ⟨xb,0,none⟩ g) lab' base sb B s V G n c xs pv iv av b xb g ⟨y.ps++[⟨0,[]⟩],y.is,y.te⟩ (fun j=>if j=y.ps.length then .slice none 0 0 else ay j):=by
 have a:=i.alloc o;obtain⟨lab',N,x⟩:=a.yph.grow f M H a.fr;have P:=i.bb;have I:=i.bs;have S:=i.xlt;have R:=a.size;have r:=fun q d h F=>x.same q d h F
 have E:=r xb oM a.xbx.lt (by rw[a.xbl];simp);have C:=r w.heap.size I a.box.lt (by rw[a.boxl];simp);have D:=r (w.heap.size+1) oM a.res.lt (by rw[a.resl];simp);have u:=a.xbx.keep E.1;have t:∀q,q<base->w8.heap[q]?=(wr.alloc o).heap[q]?:=fun q hq=>f.block q (oN a.size) (fun e=>by have:=(a.yph.own.lt q e.symm).1;omega)
 have z:XW w8 (w8.setCell ⟨xb,0,none⟩ g) lab' lab' base (fun q=>q≠xb):=XW.put xb 0 g;have v:=E.2.trans a.xbl;have O:∀q,(lab' q).1≠0->q≠xb:=fun q d e=>d (by rw[e,v])
 have k:=x.trans z;have l:∀q,(lab q).1≠0->lab q≠(2,b,0)->lab q≠(2,b,0)/\q≠xb:=fun q d h=>⟨h,fun e=>d (by rw[e,a.xbl])⟩
 refine⟨u,lab',a.step k (fun q d h=>l q d (fun e=>by rw[e]at h;simp at h)) ?_ (a.yin.sp k (fun q e=>l q (by rw[e];simp) (by rw[e];simp))) (fun m J=>?_) ?_ f.os f.tape f.output (fun q d _=>(Below.heap_setCell _ _ _ _ (by show q≠xb;omega)).trans (t q d)) ((a.box.keep C.1).other oM) (C.2.trans a.boxl) ((a.res.keep D.1).other oM) (D.2.trans a.resl) ?_ v⟩
 ·subst L
  have e:Yh (fun j=>if j=y.ps.length then .slice none 0 0 else ay j) (y.ps++[⟨0,[]⟩])=Yh ay y.ps++[.int .i64 0,.slice none 0 0]:=by
   unfold Yh;rw[Zo,aV];dsimp only;rw[aU rfl,ZF (f':=fun j (p:Ph)=>[Value.int .i64 p.dst,ay j]) 0 y.ps (fun T Q=>by rw[aV,aM oM])]
  show Xv _ lab' (2,b,0) base 96 2 g (y.ps++[(⟨0,[]⟩:Ph)]).length (Yh (fun j=>if j=y.ps.length then .slice none 0 0 else ay j) (y.ps++[(⟨0,[]⟩:Ph)]));rw[e,aQ];exact N.sp z (fun q e=>O q (by rw[e];simp))
 ·by_cases e:m<y.ps.length
  ·simp only[fA e,aM (Nat.ne_of_lt e)]
   exact(a.yar m e).sp k (fun q e=>l q (by rw[e];simp) (by rw[e];simp))
  ·have K:m=y.ps.length:=by simp at J;omega
   subst K;simp only[fN (aA _),aU,kL,eM];exact Kb.nil
 ·refine ZQ.put (a.dr.keep ⟨f.os,f.tape,f.output,f.size,fun q hq=>t q oM⟩) oM
 ·have:=u.set 0 g
  simpa using this
theorem Z4.push0{o:Obj}{F d np pc:Nat}{x h:Value}{f:List Int}(r:Z4 w wr lab base sb B s V G n c xs pv iv av b xb p y ay)(U:p=.slice (some ⟨d,0,none⟩) np pc)(z:0<y.ps.length)(X:Xv wr lab (4,b,0) base 2 1 x f.length (Xt f))(g:(wr.alloc o).grownBy w8 x.ownBlock)(T:w8.ownsRow base 2 1 h F (Xt f++[.int .i64 0]))(R:F=f.length+1)(L:h.ownBlock=x.ownBlock\/h.ownBlock=some (wr.alloc o).heap.size) :
 (Bx w8 xb #[p,iv b,.int .i64 y.te.kind,.int .i64 y.te.a,.int .i64 y.te.to,.int .i64 y.te.els] 90/\w8.cell? ⟨d,1,none⟩=some (ay 0)/\w8.frozen? ⟨d,1,none⟩=false)/\∃lab',Z4 w (w8.setCell ⟨d,1,none⟩ h) lab' base sb B s V G n c xs pv iv av b xb p ⟨y.ps.set 0 ⟨y.ps[0].dst,f++[0]⟩,y.is,y.te⟩ (fun m=>if m=0 then h else ay m):=by
 have a:=r.alloc o;have C:=X.sp (XW.box o) (fun _ _=>trivial);obtain⟨lab',W,u⟩:=C.grow g T L a.fr;have aa:=r.bb;have M:=r.bs;have hx:=r.xlt;have ac:=a.size;have v:=fun q i j K=>u.same q i j K
 have J:=v xb oM a.xbx.lt (by rw[a.xbl];simp);have H:=v w.heap.size M a.box.lt (by rw[a.boxl];simp);have I:=v (w.heap.size+1) oM a.res.lt (by rw[a.resl];simp);have D:=a.xbx.keep J.1;have A:∀q,q<base->w8.heap[q]?=(wr.alloc o).heap[q]?:=fun q hq=>g.block q oM (fun e=>by have:=(C.own.lt q e.symm).1;omega)
 subst U;have k:=a.yph.sp u (fun q e=>by rw[e];simp);have S:=ZW k;subst S;have O:=k.blk.2;have ab:=k.blk.1.1;have P:=a.yph.blk.2;have E:XW w8 (w8.setCell ⟨d,1,none⟩ h) lab' lab' base (fun q=>q≠d):=XW.put d 1 h;have Z:∀q,lab' q≠(2,b,0)->q≠d:=fun q i e=>i (by rw[e,O])
 have l:∀q,lab q≠(2,b,0)->q≠d:=fun q i e=>i (by rw[e,P])
 have t:=u.trans E;have N:Cl w8 d 1 (ay 0):=k.cell (by
  unfold Yh;have:=Xz (sz:=2) (f:=fun Y (p:Ph)=>[Value.int .i64 p.dst,ay Y]) (fun _ _=>rfl) 0 y.ps 0 z 1 oM;rw[lC,aV]at this;rw[this];rfl)
 refine⟨⟨D,N,k.thaw 1⟩,lab',a.step t (fun q i j=>⟨fun e=>by rw[e]at j;simp at j,l q (fun e=>by rw[e]at j;simp at j)⟩) ?_ (a.yin.sp t (fun q e=>⟨by rw[e];simp,l q (by rw[e];simp)⟩)) (fun m Q=>?_) ?_ g.os g.tape g.output (fun q i _=>(Below.heap_setCell _ _ _ _ (by show q≠d;omega)).trans (A q i)) ((a.box.keep H.1).other (l _ (by rw[a.boxl];simp))) (H.2.trans a.boxl) ((a.res.keep I.1).other (l _ (by rw[a.resl];simp))) (I.2.trans a.resl) (D.other (l _ (by rw[a.xbl];simp))) (J.2.trans a.xbl)⟩
 ·show Xv _ lab' (2,b,0) base 96 2 _ (y.ps.set 0 ⟨y.ps[0].dst,f++[0]⟩).length (Yh (fun m=>if m=0 then h else ay m) (y.ps.set 0 ⟨y.ps[0].dst,f++[0]⟩))
  rw[bL,Vv (q:=⟨y.ps[0].dst,f++[0]⟩) z rfl];exact k.set 1 h
 ·by_cases e:m=0
  ·subst e
   simp only[cQ,aU];refine Kb.sp (Xv.intsL ?_) E (fun q e=>Z q (by rw[e];simp));subst R;have e2:Xt (f++[0])=Xt f++[.int .i64 0]:=by simp[Xt]
   rw[e2,aQ];exact W
  ·simp only[bI (fun e2=>e e2.symm),aM e]
   exact(a.yar m (by simpa using Q)).sp t (fun q e3=>⟨by rw[e3];simp;exact e,l q (by rw[e3];simp)⟩)
 ·exact ZQ.put (a.dr.keep ⟨g.os,g.tape,g.output,g.size,fun q hq=>A q oM⟩) oM
theorem Z4.setA{a u j m:Nat}{d:List Int}{z:Int}(h:Z4 w wr lab base sb B s V G n c xs pv iv av b xb p y ay)(o:0<y.ps.length)(g:Xv wr lab (4,b,0) base 2 1 (.slice (some ⟨a,0,none⟩) u j) d.length (Xt d))(C:ay 0=.slice (some ⟨a,0,none⟩) u j) :
 Z4 w (wr.setCell ⟨a,m,none⟩ (.int .i64 z)) lab base sb B s V G n c xs pv iv av b xb p ⟨y.ps.set 0 ⟨y.ps[0].dst,d.set m z⟩,y.is,y.te⟩ ay:=by
 have r:=ZW g;have v:=g.lab a rfl;have D:=(g.own.lt a rfl).1;have k:XW wr (wr.setCell ⟨a,m,none⟩ (.int .i64 z)) lab lab base (fun b=>b≠a):=XW.put a _ _;have f:∀q,lab q≠(4,b,0)->q≠a:=fun q i e=>i (by rw[e,v])
 have:=h.bb;refine h.step k (fun q i l=>f q (fun e=>by rw[e]at l;simp at l)) ?_ (h.yin.sp k (fun q e=>f q (by rw[e];simp))) (fun t x=>?_) (h.dr.put oM) rfl rfl rfl (fun q i _=>Below.heap_setCell _ _ _ _ (by show q≠a;omega)) (h.box.other (f _ (by rw[h.boxl];simp))) h.boxl (h.res.other (f _ (by rw[h.resl];simp))) h.resl (h.xbx.other (f _ (by rw[h.xbl];simp))) h.xbl
 ·have A:=h.yph.sp k (fun q e=>f q (by rw[e];simp))
  have e:Yh ay (y.ps.set 0 ⟨y.ps[0].dst,d.set m z⟩)=Yh ay y.ps:=by
   have e1:=Vv (ay:=ay) (ps:=y.ps) (j:=0) (q:=⟨y.ps[0].dst,d.set m z⟩) (v:=ay 0) o rfl;have e2:=Vv (ay:=ay) (ps:=y.ps) (j:=0) (q:=y.ps[0]) (v:=ay 0) o rfl;have e3:(fun m=>if m=0 then ay 0 else ay m)=ay:=by funext m;by_cases e:m=0;(rw[aU e,e]);(rw[aM e])
   rw[e3]at e1 e2;rw[e1,<-e2,fK]
  show Xv _ lab (2,b,0) base 96 2 p (y.ps.set 0 ⟨y.ps[0].dst,d.set m z⟩).length (Yh ay (y.ps.set 0 ⟨y.ps[0].dst,d.set m z⟩));rw[bL,e];exact A
 ·by_cases e:t=0
  ·subst e
   simp only[cQ];rw[C];refine Xv.intsL ?_;rw[r]at g;have:=g.set m (.int .i64 z);have e2:Xt (d.set m z)=(Xt d).set m (.int .i64 z):=by simp[Xt,List.map_set]
   rw[e2,bL,r];exact this
  ·simp only[bI (fun e2=>e e2.symm)]
   exact(h.yar t (by simpa using x)).sp k (fun q e3=>f q (by rw[e3];simp;exact e))
theorem Z4.setI{a E D i m:Nat}{z:Int}{x':Yg}(h:Z4 w wr lab base sb B s V G n c xs pv iv av b xb p y ay)(u:i<y.is.length)(o:iv b=.slice (some ⟨a,0,none⟩) E D)(v:m<5)(C:x'.cells=y.is[i].cells.set m (.int .i64 z)) :
 Z4 w (wr.setCell ⟨a,i*5+m,none⟩ (.int .i64 z)) lab base sb B s V G n c xs pv iv av b xb p ⟨y.ps,y.is.set i x',y.te⟩ ay:=by
 have d:=h.yin;rw[o]at d;have A:=ZW d;have t:lab a=(3,b,0):=d.lab a rfl;have F:=(d.own.lt a rfl).1;have k:XW wr (wr.setCell ⟨a,i*5+m,none⟩ (.int .i64 z)) lab lab base (fun b=>b≠a):=XW.put a _ _;have f:∀q,lab q≠(3,b,0)->q≠a:=fun q g e=>g (by rw[e,t])
 have:=h.bb;refine h.step k (fun q g j=>f q (fun e=>by rw[e]at j;simp at j)) (h.yph.sp k (fun q e=>f q (by rw[e];simp))) ?_ (fun r l=>(h.yar r l).sp k (fun q e=>f q (by rw[e];simp))) (h.dr.put oM) rfl rfl rfl (fun q g _=>Below.heap_setCell _ _ _ _ (by show q≠a;omega)) (h.box.other (f _ (by rw[h.boxl];simp))) h.boxl (h.res.other (f _ (by rw[h.resl];simp))) h.resl (h.xbx.other (f _ (by rw[h.xbl];simp))) h.xbl;have e:YC (y.is.set i x')=(YC y.is).set (i*5+m) (.int .i64 z):=by
  unfold YC;exact Yr (f:=fun _ (x:Yg)=>x.cells) (f':=fun _ (x:Yg)=>x.cells) (sz:=5) (fun _ _=>rfl) 0 y.is i u x' m (.int .i64 z) v C (fun r l _=>rfl)
 show Xv _ lab (3,b,0) base 98 5 (iv b) (y.is.set i x').length (YC (y.is.set i x'));rw[bL,e,o];rw[A]at d |-;exact d.set (i*5+m) (.int .i64 z)
theorem Z4.gcells(h:Z4 w wr lab base sb B s V G n c xs pv iv av b xb p y ay)(e:b<xs.length):(∃u,wr.cell? ⟨G,b*6,none⟩=some u)/\(∃u,wr.cell? ⟨G,b*6+1,none⟩=some u)/\(∃u,wr.cell? ⟨G,b*6+2,none⟩=some u)/\(∃u,wr.cell? ⟨G,b*6+3,none⟩=some u)/\(∃u,wr.cell? ⟨G,b*6+4,none⟩=some u)/\(∃u,wr.cell? ⟨G,b*6+5,none⟩=some u)/\∀q,wr.frozen? ⟨G,q,none⟩=false:=by
 have d:=h.blks;have f:=ZW d;subst f;have a:∀q u,q<6->(UT (pv b) (iv b) xs[b].te)[q]?=some u->wr.cell? ⟨G,b*6+q,none⟩=some u:=fun q u hq g=>d.cell (by
  unfold XF;rw[Xz (fun _ _=>KU _ _ _) 0 xs b e q hq,aV];exact g)
 exact⟨⟨_,a 0 _ oM rfl⟩,⟨_,a 1 _ oM rfl⟩,⟨_,a 2 _ oM rfl⟩,⟨_,a 3 _ oM rfl⟩,⟨_,a 4 _ oM rfl⟩,⟨_,a 5 _ oM rfl⟩,fun q=>d.thaw q⟩
theorem Z4.icells{a r o i:Nat}(h:Z4 w wr lab base sb B s V G n c xs pv iv av b xb p y ay)(j:i<y.is.length)(m:iv b=.slice (some ⟨a,0,none⟩) r o):(∃u,wr.cell? ⟨a,i*5,none⟩=some u)/\(∃u,wr.cell? ⟨a,i*5+1,none⟩=some u)/\(∃u,wr.cell? ⟨a,i*5+2,none⟩=some u)/\(∃u,wr.cell? ⟨a,i*5+3,none⟩=some u)/\(∃u,wr.cell? ⟨a,i*5+4,none⟩=some u)/\(∀q,wr.frozen? ⟨a,q,none⟩=false)/\xb≠a/\w.heap.size≠a:=by
 have d:=h.yin;rw[m]at d;have k:=ZW d;rw[k]at d;have g:=d.lab a rfl;have e:∀q u,q<5->(y.is[i].cells)[q]?=some u->wr.cell? ⟨a,i*5+q,none⟩=some u:=fun q u hq l=>d.cell (by
  unfold YC;rw[Xz (sz:=5) (fun _ _=>rfl) 0 y.is i j q hq];exact l)
 exact⟨⟨_,e 0 _ oM rfl⟩,⟨_,e 1 _ oM rfl⟩,⟨_,e 2 _ oM rfl⟩,⟨_,e 3 _ oM rfl⟩,⟨_,e 4 _ oM rfl⟩,fun q=>d.thaw q,fun f=>by have:=h.xbl;rw[f,g]at this;simp at this,fun f=>by have:=h.boxl;rw[f,g]at this;simp at this⟩
theorem Z4.pcells{a l m:Nat}(h:Z4 w wr lab base sb B s V G n c xs pv iv av b xb p y ay)(g:0<y.ps.length)(j:p=.slice (some ⟨a,0,none⟩) l m):wr.cell? ⟨a,1,none⟩=some (ay 0)/\(∀q,wr.frozen? ⟨a,q,none⟩=false)/\xb≠a/\w.heap.size≠a:=by
 subst j;have d:=h.yph;have i:=ZW d;rw[i]at d;have f:=d.lab a rfl;refine⟨d.cell (by
  unfold Yh;have:=Xz (sz:=2) (f:=fun k (p:Ph)=>[Value.int .i64 p.dst,ay k]) (fun _ _=>rfl) 0 y.ps 0 g 1 oM;rw[lC,aV]at this;rw[this];rfl),fun q=>d.thaw q,fun e=>by have:=h.xbl;rw[e,f]at this;simp at this,fun e=>by have:=h.boxl;rw[e,f]at this;simp at this⟩
theorem Z4.gne{q:Nat}(h:Z4 w wr lab base sb B s V G n c xs pv iv av b xb p y ay)(hq:lab q=(0,0,0)):q≠G:=fun e=>by
 have a:=ZW h.blks;subst a;have:=h.blks.blk.2;rw[<-e,hq]at this;simp at this
theorem Z4.gxb(h:Z4 w wr lab base sb B s V G n c xs pv iv av b xb p y ay):G≠xb:=fun e=>h.gne h.xbl e.symm
theorem Z4.gbox(h:Z4 w wr lab base sb B s V G n c xs pv iv av b xb p y ay):w.heap.size≠G:=h.gne h.boxl
theorem Z4.gres(h:Z4 w wr lab base sb B s V G n c xs pv iv av b xb p y ay):w.heap.size+1≠G:=h.gne h.resl
end
end Go.Proofs.YtghnlncgiihhgaaGreatDoor
