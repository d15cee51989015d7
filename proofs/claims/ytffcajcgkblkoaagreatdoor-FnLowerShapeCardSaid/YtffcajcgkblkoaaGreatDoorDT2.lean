import Derived.Test.YtffcajcgkblkoaaGreatDoorDGc
namespace Go.Proofs.YtffcajcgkblkoaaGreatDoor
set_option maxHeartbeats 8000000
set_option maxRecDepth 100000
open Go.RowKit Go.Proofs.Tryz
variable{t z:Int}{l L:List Int}{x X:List Xe}{n m k B g i c:Nat}{Z:Nat->Nat×Nat×Nat}{h H:Nat->Value}{a A:Value}{w v u:World}
theorem TC:∀(a c:List Xe)(k:Nat)(b:Int),a.length=c.length->(∀i (h:i<a.length) (g:i<c.length),a[i].te.tg=c[i].te.tg)->AQ a k b=AQ c k b
 |[],[],_,_,_,_=>rfl
 |[],_::_,_,_,h,_=>by simp at h
 |_::_,[],_,_,h,_=>by simp at h
 |x::a,y::c,k,b,h,ht=>by
  have d:=ht 0 sP sP;rw[eM,eM]at d;rw[AQ,AQ,d,TC a c (k+1) b (by simpa using h) λi e f=>by have:=ht (i+1) (by simpa using e) (by simpa using f);rwa[fO,fO]at this]
theorem zc{x:Xe}(a:n<X.length)(h:x.te=X[n].te)(k:Nat)(b:Int):AQ (X.set n x) k b=AQ X k b :=
 TC _ _ _ _ sP (λj c d=>by
  by_cases e:n=j
  .subst e;rw[cQ,h]
  rw[bI e])
theorem qm(c:List (List Int)):∀(b:List Int)(s:Sr)(a:List Int),(ZD c b s a).1.length=a.length+b.length
 |[],_,_=>rfl
 |p::b,s,a=>by
  rw[ZD,qm];simp only[aQ,bA,bO];omega
theorem Vr(b:List (List Int))(preds:List Int):∀(k j:Nat)(a:List Ph)(s:Sr),(JC b preds k j a s).1.length=a.length
 |0,_,_,_=>rfl
 |k+1,j,a,s=>by rw[JC,Vr];simp
theorem qF(c:List (List Int))(preds:List Int):∀(k j:Nat)(a:List Ph)(s:Sr),j+k=a.length->(∀m (h:m<a.length),m<j->a[m].args.length=preds.length)->(∀m (h:m<a.length),j<=m->a[m].args=[])->∀p∈(JC c preds k j a s).1,p.args.length=preds.length
 |0,j,a,s,hj,h1,_,p,hp=>by
  obtain⟨m,b,rfl⟩:=bR hp;exact h1 m b (by have:m<a.length:=b;omega)
 |k+1,j,a,s,hj,h1,h2,p,hp=>by
  rw[JC]at hp;have d:j<a.length:=oM;refine qF c preds k (j+1) _ _ (by simp;omega) (λm b f=>?_) (λm b f=>?_) p hp
  .by_cases e:j=m
   .subst e;rw[cQ];show(ZD c preds s (a.getD j Wo).args).1.length=preds.length;rw[qm,show a.getD j Wo=a[j] by simp[d],h2 j d<|aA _];simp
   rw[bI e];exact h1 m (by simpa using b) oM
  rw[bI oM];exact h2 m (by simpa using b) oM
theorem qL(b:List (List Int)):∀(k i:Nat)(a:List Xe)(s:Sr),(ZL b k i a s).1.length=a.length
 |0,_,_,_=>rfl
 |k+1,i,a,s=>by rw[ZL,qL];simp
theorem sh(d:List (List Int)):∀(k i:Nat)(a:List Xe)(s:Sr),i+k=a.length->(∀m (h:m<a.length),m<i->∀p∈a[m].ps,p.args.length=(AQ a 0 (m:Int)).length)->(∀m (h:m<a.length),i<=m->∀p∈a[m].ps,p.args=[])->iu (ZL d k i a s).1
 |0,i,a,s,hi,h1,_=>λm c=>h1 m c (by have:m<a.length:=c;omega)
 |k+1,i,a,s,hi,h1,h2=>by
  rw[ZL];have e:i<a.length:=oM;have g:a.getD i XV=a[i]:=by simp[e]
  rw[g];refine sh d k (i+1) _ _ (by simp;omega) (λm c j p b=>?_) λm c j p b=>?_
  .rw[zc (x:=⟨(JC d (AQ a 0 (i:Int)) a[i].ps.length 0 a[i].ps s).1,a[i].is,a[i].te⟩) e rfl];by_cases f:i=m
   .subst f;rw[cQ]at b;exact qF d _ _ 0 _ _ (aV _) (λ_ _ h=>absurd h oM) (λq hq _=>h2 i e (aA _) _ (aH hq)) p b
   rw[bI f]at b;exact h1 m (by simpa using c) oM p b
  rw[bI oM]at b;exact h2 m (by simpa using c) oM p b
theorem pJ(d:Bool)(c:List Int):∀(k i:Nat)(g:I5),(∀x∈g.xs,x.ps.length<=1000/\∀p∈x.ps,p.args=[])->∀x∈(Zm d c k i g).xs,x.ps.length<=1000/\∀p∈x.ps,p.args=[]
 |0,_,_,h=>h
 |k+1,i,g,h=>by
  rw[Zm];refine pJ d c k (i+1) _ λx a=>?_;rcases fE a with a|a;·exact h x a
  subst a;refine⟨?_,λp e=>?_⟩
  .show(VK (Uy _ g.s).1 g.v).length<=1000;rw[KI];have:=km (AQ g.xs 0 (i:Int)).length g.s;omega
  have b:p∈VK (Uy (AQ g.xs 0 (i:Int)).length g.s).1 g.v:=e;unfold VK at b;obtain⟨j,_,rfl⟩:=aY.1 b;rfl
theorem qn(c:Bool)(b:List Int):∀(k i:Nat)(g:I5),Jb g.s->(∀x∈g.xs,x.is.length<=1000)->∀x∈(Zm c b k i g).xs,x.is.length<=1000
 |0,_,_,_,h=>h
 |k+1,i,g,hs,h=>by
  rw[Zm];refine qn c b k (i+1) _ (DM hs) λx a=>?_;rcases fE a with a|a;·exact h x a
  subst a;have:=(Em (near:=c) (i:=i) (np:=(AQ g.xs 0 (i:Int)).length) (t:=(g.xs.getD i XV).te) (vs0:=if i=0 then []else g.ends.getD (b.getD i 0).toNat []) (v:=g.v) hs).2.2.2.1;exact aJ this oM
theorem qO(c:List (List Int)):∀(k i:Nat)(a:List Xe)(s:Sr)(m:Nat),i+k=a.length->(∀x∈a,x.ps.length<=m/\x.is.length<=m)->∀x∈(ZL c k i a s).1,x.ps.length<=m/\x.is.length<=m
 |0,_,_,_,_,_,h=>h
 |k+1,i,a,s,m,hi,h=>by
  rw[ZL];have d:i<a.length:=oM;rw[show a.getD i XV=a[i] by simp[d]];refine qO c k (i+1) _ _ m (by simp;omega) λx b=>?_;rcases fE b with b|b;·exact h x b
  subst b;have:=h _<|aH d;refine⟨?_,this.2⟩;show(JC c _ _ 0 _ s).1.length<=m;rw[Vr];exact this.1
theorem Ed(ha:iu x)(d:x.length<=1000)(h:∀a∈x,a.ps.length<=1000/\a.is.length<=1000):Kg x:=λa b=>by
 refine⟨(h a b).1,λp e=>?_,(h a b).2⟩;obtain⟨i,c,rfl⟩:=bR b;rw[ha i c p e];exact aJ (JP _ _ _) d
theorem Aa(n:Nat)(a args:List Int)(z:Int):(Wy n a args z).length<=a.length:=by
 unfold Wy;exact aJ (mC _ _) sP
theorem qx(n:Nat)(b a args:List Int):(JH n b a args).length<=a.length*b.length:=by
 unfold JH
 induction a with
 |nil=>simp
 |cons z a c=>
  rw[jF,aQ,bA,jK,jL];have:=Aa n b args z;omega
theorem qD(a:List Xe)(i:a.length<=11):∀(k b:Nat)(g:List Xe),g.length=a.length->b+k=g.length->(∀x∈g,x.ps.length<=1000/\(∀p∈x.ps,p.args.length<=1000)/\x.is.length<=1000)->Kg (Ks a k b g)
 |0,_,_,_,_,h=>h
 |k+1,b,g,hg,hb,h=>by
  rw[Ks];have e:b<g.length:=oM;rw[show g.getD b XV=g[b] by simp[e]];refine qD a i k (b+1) _ (by simpa using hg) (by simp;omega) λx c=>?_;rcases fE c with c|c;·exact h x c
  subst c;have d:=h _<|aH e;refine⟨by show(YD _ _ _ _).length<=1000;unfold YD;rw[bK];exact d.1,λp j=>?_,d.2.2⟩;have f:p∈YD a.length (AQ a 0 (CP b a.length:Nat)) (AQ g 0 (b:Int)) g[b].ps:=j;unfold YD at f;obtain⟨q,_,rfl⟩:=aY.1 f;have l:=qx a.length (AQ a 0 (CP b a.length:Nat)) (AQ g 0 (b:Int)) q.args;have m:=JP a 0 ((CP b a.length:Nat):Int);have n:=JP g 0 (b:Int);show(JH _ _ _ q.args).length<=1000;have o:(AQ g 0 (b:Int)).length*(AQ a 0 ((CP b a.length:Nat):Int)).length<=11*11:=lO oM oM;omega
theorem As(e:x.length<=11)(f:1<=x.length)(h:Kg x):Kg (Zh x):=by
 unfold Zh;refine qD x e _ 0 _ (by simp[YP]) (by simp[YP]) λi c=>?_;unfold YP at c;obtain⟨b,d,rfl⟩:=aY.1 c;have g:=bE.1 d;have a:CP b x.length<x.length:=by unfold CP;split<;>omega
 rw[show x.getD (CP b x.length) XV=x[CP b x.length] by simp[a]];have:=h _<|aH a;exact this
def LT(a:List Xe):Prop:=∀x∈a,∀p∈x.ps,0<p.args.length
def LP(a:List Xe):Prop:=∀i (h:i<a.length),0<a[i].ps.length->0<(AQ a 0 (i:Int)).length
theorem Eb(ha:iu x)(c:LP x):LT x:=λe d p b=>by
 obtain⟨i,a,rfl⟩:=bR d;rw[ha i a p b];exact c i a<|eJ b
theorem fd.b{t:Yj}(h:fd n k t)(b:1<=n)(a:n<=m):fw m t:=by
 rcases h with⟨rfl,_⟩|⟨q,rfl,h1,h2,_⟩|⟨q,r,rfl,h1,h2,h3,h4,_⟩;·exact⟨aZ<|aZ rfl,by dsimp only;omega⟩
 .exact⟨bC rfl,by dsimp only;omega⟩
 exact⟨aZ<|bC rfl,by dsimp only;omega⟩
theorem A9{dead:Bool}{b:List Yj}{s:Sr}(g:b.length=n)(d:1<=n)(h:∀j (h:j<b.length),fd n j b[j]):∀t∈(ZI dead n b s).1,fw (ZI dead n b s).1.length t:=by
 have c:∀m,n<=m->∀t∈b,fw m t:=λm f t a=>by
  obtain⟨j,e,rfl⟩:=bR a;exact(h j e).b d f
 unfold ZI;split
 .split
  .intro t a;have i:=XE s (n:=(n:Int)-1) oM;rcases bU.1 a with a|a;·exact c _ (by simp;omega) t a
   simp only[cH,eA,lL]at a;subst a;refine⟨bC rfl,?_⟩;dsimp only;simp only[aQ,bA,bO];omega
  intro t a;rcases bU.1 a with a|a;·exact c _ (by simp;omega) t a
  simp only[cH,eA,lL]at a;subst a;refine⟨aZ<|aZ rfl,?_⟩;dsimp only;simp only[aQ,bA,bO];omega
 exact c _<|by show n<=b.length;omega
theorem AI{a:List Yj}(h:∀t∈a,fw a.length t):LZ (a.map Yt)/\LP (a.map Yt):=by
 refine⟨λx e=>?_,λi c b=>?_⟩
 .obtain⟨t,d,rfl⟩:=aY.1 e;rw[bK];exact h t d
 rw[(KD a _<|aH c).1]at b;exact absurd b sP
theorem zQ(a:Bool)(t:Yj)(b:List Int)(s:Sr):(IJ a t b s).1.kind=t.kind/\(IJ a t b s).1.to=t.to/\(IJ a t b s).1.els=t.els:=by
 unfold IJ;split;·exact⟨rfl,rfl,rfl⟩
 exact⟨rfl,rfl,rfl⟩
theorem AF{t u:Yj}(h:t.kind=u.kind/\t.to=u.to/\t.els=u.els):t.tg=u.tg:=by
 unfold Yj.tg;rw[h.1,h.2.1,h.2.2]
theorem zK{t u:Yj}(h:t.kind=u.kind/\t.to=u.to/\t.els=u.els)(a:fw n u):fw n t:=by
 unfold fw;rw[h.1,h.2.1,h.2.2];exact a
theorem rZ{x:Xe}(f:LZ X)(i:LP X)(g:n<X.length)(h:x.te.kind=X[n].te.kind/\x.te.to=X[n].te.to/\x.te.els=X[n].te.els)(l:0<x.ps.length->0<(AQ X 0 (n:Int)).length):LZ (X.set n x)/\LP (X.set n x):=by
 have k:∀b:Int,AQ (X.set n x) 0 b=AQ X 0 b:=λb=>TC _ _ _ _ sP (λj d m=>by
  by_cases e:n=j
  .subst e;rw[cQ];exact AF h
  rw[bI e])
 refine⟨λy a=>?_,λj d c=>?_⟩
 .rw[bL];rcases fE a with a|a;·exact f y a
  subst a;exact zK h<|f _ (aH g)
 rw[k];by_cases e:n=j
 .subst e;rw[cQ]at c;exact l c
 rw[bI e]at c;exact i j (by simpa using d) c
theorem qh(c:Bool)(b:List Int):∀(k i:Nat)(g:I5),i+k=g.xs.length->LZ g.xs->LP g.xs->LZ (Zm c b k i g).xs/\LP (Zm c b k i g).xs
 |0,_,_,_,h1,h2=>⟨h1,h2⟩
 |k+1,i,g,hi,h1,h2=>by
  rw[Zm];have d:i<g.xs.length:=oM;have f:g.xs.getD i XV=g.xs[i]:=by simp[d]
  have e:=rZ (x:=(VL c i (AQ g.xs 0 (i:Int)).length (g.xs.getD i XV).te (if i=0 then []else g.ends.getD (b.getD i 0).toNat []) g.v g.s).blk) h1 h2 d (by rw[f];exact zQ _ _ _ _) (λh=>by
   have a:0<(VK (Uy (AQ g.xs 0 (i:Int)).length g.s).1 g.v).length:=h;rw[KI]at a;unfold Uy at a;split at a;·omega
   split at a;·omega
   exact absurd a sP)
  exact qh c b k (i+1) _ (by simp;omega) e.1 e.2
theorem qX(b:List (List Int)):∀(k i:Nat)(a:List Xe)(s:Sr),i+k=a.length->LZ a->LP a->LZ (ZL b k i a s).1/\LP (ZL b k i a s).1
 |0,_,_,_,_,h1,h2=>⟨h1,h2⟩
 |k+1,i,a,s,hi,h1,h2=>by
  rw[ZL];have c:i<a.length:=oM;rw[show a.getD i XV=a[i] by simp[c]];have e:=rZ (x:=⟨(JC b (AQ a 0 (i:Int)) a[i].ps.length 0 a[i].ps s).1,a[i].is,a[i].te⟩) h1 h2 c ⟨rfl,rfl,rfl⟩ (λf=>by
   have d:0<(JC b (AQ a 0 (i:Int)) a[i].ps.length 0 a[i].ps s).1.length:=f;rw[Vr]at d;exact h2 i c d)
  exact qX b k (i+1) _ _ (by simp;omega) e.1 e.2
theorem TU:∀(c:List Xe)(k:Nat)(b z:Int),z∈AQ c k b↔∃i,∃h:i<c.length,z=((k+i:Nat):Int)/\c[i].te.tg.contains b=true
 |[],_,_,_=>by simp[AQ]
 |x::c,k,b,z=>by
  rw[AQ,bU,TU c (k+1) b z];constructor
  .rintro(h|⟨i,e,d,a⟩)
   .split at h
    .rename_i f;simp only[cH,eA,lL]at h;exact⟨0,sP,by rw[h];simp,by simpa using f⟩
    simp at h
   exact⟨i+1,by simpa using e,by rw[d];congr 1;omega,by simpa using a⟩
  rintro⟨i,e,d,a⟩;cases i with
  |zero=>
   left;rw[eM]at a;rw[aU a,d];simp
  |succ i=>
   right;exact⟨i,by simpa using e,by rw[d];congr 1;omega,by simpa using a⟩
theorem UG{b:Nat}(h:b<n):CP b n<n:=by unfold CP;split<;>omega
theorem Ka{b:Nat}(h:b<n):CP (CP b n) n=b:=by unfold CP;split<;>split<;>omega
theorem mh{b:Nat}(h:b<n):J1 (b:Int) n=((CP b n:Nat):Int):=by
 unfold J1 CP;split
 .rename_i a;rw[aU oM];rfl
 rename_i a;rw[aM oM];omega
theorem zN{args:List Int}(c:t∈l)(d:z∈L)(h:t=J1 z n):0<(JH n l L args).length:=by
 let⟨m,a,b⟩:=bR c;refine eJ (a:=args.getD m 0) ?_;unfold JH;refine bV.2 ⟨z,d,?_⟩;unfold Wy;refine List.mem_filterMap.2 ⟨m,bE.2 a,?_⟩;rw[aU];rw[<-h,<-b];simp[a]
theorem zm{t:Yj}{b:Nat}(e:b<n)(h:t.tg.contains ((CP b n:Nat):Int)=true):(YB n t).tg.contains (b:Int)=true:=by
 have c:J1 ((CP b n:Nat):Int) n=(b:Int):=by rw[mh<|UG e,Ka e]
 unfold Yj.tg at h |-;unfold YB;dsimp only;split at h
 .rename_i a;rw[aU a,aU oM];simp only[List.contains_cons,List.contains_nil,jU,iA]at h;rw[<-h,c];simp
 rename_i a;split at h
 .rename_i d;rw[aM a,aU d,aU oM,aU d];simp only[List.contains_cons,List.contains_nil,jU,dI,iA]at h;rcases h with h|h;·rw[<-h,c];simp
  rw[<-h,c];simp
 simp at h
theorem qB(a:List Xe)(q:LP a):∀(k b:Nat)(g:List Xe),g.length=a.length->b+k=g.length->(∀j (m:j<g.length) (t:CP j a.length<a.length),g[j].te=YB a.length a[CP j a.length].te)->(∀j (m:j<g.length),j<b->∀p∈g[j].ps,0<p.args.length)->(∀j (m:j<g.length) (t:CP j a.length<a.length),b<=j->g[j].ps=a[CP j a.length].ps)->LT (Ks a k b g)
 |0,b,g,hg,hb,_,h1,_=>λB y=>by
  obtain⟨j,c,rfl⟩:=bR y;exact h1 j c (by have:j<g.length:=c;omega)
 |k+1,b,g,hg,hb,ht,h1,h2=>by
  rw[Ks];have l:b<g.length:=oM;rw[show g.getD b XV=g[b] by simp[l]];refine qB a q k (b+1) _ (by simpa using hg) (by simp;omega) (λj c f=>?_) (λj c v p h=>?_) λj c f v=>?_
  .by_cases e:b=j
   .subst e;rw[cQ];exact ht b l f
   rw[bI e];exact ht j (by simpa using c) f
  .by_cases e:b=j
   .subst e;rw[cQ]at h;have r:p∈YD a.length (AQ a 0 (CP b a.length:Nat)) (AQ g 0 (b:Int)) g[b].ps:=h;unfold YD at r;obtain⟨z,hq,rfl⟩:=aY.1 r;have n:b<a.length:=oM;have o:=UG n;rw[h2 b l o<|aA _]at hq;have x:=q _ o<|eJ hq;let⟨A,s⟩:=List.exists_mem_of_length_pos x;let⟨i,d,e1,e2⟩:=(TU _ _ _ _).1 s;rw[aV]at e1;have w:=UG d;refine zN s (z:=((CP i a.length:Nat):Int)) ((TU _ _ _ _).2 ⟨CP i a.length,oM,sP,?_⟩) (by rw[mh w,Ka d];exact e1);have u:=ht (CP i a.length) oM (by rw[Ka d];exact d);rw[u];refine zm n ?_;have e3:a[CP (CP i a.length) a.length]'(by rw[Ka d];exact d)=a[i]:=by congr 1;exact Ka d
    rw[e3];exact e2
   rw[bI e]at h;exact h1 j (by simpa using c) oM p h
  rw[bI oM];exact h2 j (by simpa using c) f oM
theorem An(d:LP x):LT (Zh x):=by
 unfold Zh;have c:(YP x).length=x.length:=by simp[YP]
 refine qB x d _ 0 _ c oM (λj b a=>?_) (λj b h=>absurd h oM) λj b a _=>?_;·simp[YP,a]
 simp[YP,a]
theorem Dc(h:LT x):LT (Tm n x):=λd b p a=>by
 unfold Tm at b;obtain⟨y,c,rfl⟩:=aY.1 b;unfold Jp at a;obtain⟨q,hq,rfl⟩:=aY.1 a;have:=h y c q hq;simpa using this
theorem CE(h:Kg x):Kg (Tm n x):=λd b=>by
 unfold Tm at b;obtain⟨y,c,rfl⟩:=aY.1 b;have:=h y c;refine⟨by unfold Jp;simpa using this.1,λp a=>?_,by unfold Jp;simpa using this.2.2⟩;unfold Jp at a;obtain⟨q,hq,rfl⟩:=aY.1 a;have:=this.2.1 q hq;simpa using this
section
def Kb(w:World)(lab:Nat->Nat×Nat×Nat)(L:Nat×Nat×Nat)(base:Nat)(v:Value)(a:List Int):Prop :=
 ∃d c,v=.slice d a.length c/\∀i (h:i<a.length),∃q o,d=some ⟨q,o,none⟩/\(base<=q/\q<w.heap.size)/\lab q=L/\w.cell? ⟨q,o+i,none⟩=some (.int .i64 a[i])
theorem Xv.intsL{w:World}{lab:Nat->Nat×Nat×Nat}{L:Nat×Nat×Nat}{base:Nat}{v:Value}{a:List Int}(h:Xv w lab L base 2 1 v a.length (Xt a)):Kb w lab L base v a:=by
 let⟨d,c,e⟩:=h.form;subst e;refine⟨d,c,rfl,λj f=>?_⟩;let⟨g,i,e⟩:=h.got oM;cases e;exact⟨g,0,rfl,h.blk.1,h.blk.2,by rw[aV];exact h.cell<|by unfold Xt;simp[f]⟩
theorem Kb.sp{w w':World}{lab lab':Nat->Nat×Nat×Nat}{L:Nat×Nat×Nat}{base:Nat}{v:Value}{a:List Int}{ok:Nat->Prop}(h:Kb w lab L base v a)(k:XW w w' lab lab' base ok)(g:∀b,lab b=L->ok b):Kb w' lab' L base v a:=by
 let⟨d,c,e,h⟩:=h;refine⟨d,c,e,λi f=>?_⟩;let⟨q,o,e1,e2,e3,e4⟩:=h i f;have:=k.same q e2.1 e2.2<|g q e3;exact⟨q,o,e1,⟨e2.1,aX e2.2 k.size⟩,this.2.trans e3,(Xc this.1).trans e4⟩
theorem Kb.nil{w:World}{lab:Nat->Nat×Nat×Nat}{L:Nat×Nat×Nat}{base:Nat}:Kb w lab L base Hq []:=⟨none,0,rfl,λi a=>absurd a sP⟩
theorem EK{w:World}{lab:Nat->Nat×Nat×Nat}{base g n c:Nat}{xs:List Xe}{pv iv:Nat->Value}{av:Nat->Nat->Value}(a:Xv w lab (1,0,0) base 46 6 (Hl g n c) xs.length (XF pv iv xs))(r:∀i (h:i<xs.length),Xv w lab (2,i,0) base 106 2 (pv i) xs[i].ps.length (Yh (av i) xs[i].ps))(m:∀i (h:i<xs.length),Xv w lab (3,i,0) base 48 5 (iv i) xs[i].is.length (YC xs[i].is))(l:∀i (h:i<xs.length) j (d:j<xs[i].ps.length),Kb w lab (4,i,j) base (av i j) xs[i].ps[j].args):Xp w base w.heap.size (some ⟨g,0,none⟩) xs:=by
 have q:=ZW a;subst q;exact vM a r m (λi h j d=>by
  let⟨e,f,k,ha⟩:=l i h j d;exact⟨e,f,k,λt o=>by let⟨v,u,e1,e2,_,e4⟩:=ha t o;exact⟨v,u,e1,e2,e4⟩⟩)
theorem zR{pv iv:Nat->Value}{xs:List Xe}{i:Nat}(k:i<xs.length)(x:Xe)(p q:Value):XF (λj=>if j=i then p else pv j) (λj=>if j=i then q else iv j) (xs.set i x)=((((((XF pv iv xs).set (i*6) p).set (i*6+1) q).set (i*6+2) (Hp x.te.kind)).set (i*6+3) (Hp x.te.a)).set (i*6+4) (Hp x.te.to)).set (i*6+5) (Hp x.te.els):=by
 refine iG λr=>?_;have g:(XF pv iv xs).length=xs.length*6:=Zn (sz:=6) (λ_ _=>rfl) _ _;have o:(XF (λj=>if j=i then p else pv j) (λj=>if j=i then q else iv j) (xs.set i x)).length=xs.length*6:=(Zn (sz:=6) (λ_ _=>rfl) 0 (xs.set i x)).trans sP;by_cases t:r<xs.length*6
 .have a:r/6<xs.length:=oM;have l:r/6<(xs.set i x).length:=by simpa using a
  have f:r=r/6*6+r%6:=oM;have d:r%6<6:=dS _ vZ;generalize r/6=j at*;generalize r%6=m at*;subst f;have h:(XF (λj=>if j=i then p else pv j) (λj=>if j=i then q else iv j) (xs.set i x))[j*6+m]?=(UT (if j=i then p else pv j) (if j=i then q else iv j) (xs.set i x)[j].te)[m]?:=by
   unfold XF;rw[Xz (sz:=6) (λ_ _=>rfl) 0 (xs.set i x) j (by simpa using a) m d,aV]
  rw[h];by_cases e:j=i
  .subst e;rw[aU rfl,aU rfl,cQ];simp only[kG,g]
   match m,d with
   |0,_=>simp[UT];omega
   |1,_=>simp[UT];omega
   |2,_=>simp[UT];omega
   |3,_=>simp[UT];omega
   |4,_=>simp[UT];omega
   |5,_=>simp[UT];omega
  rw[aM e,aM e,bI λe2=>e e2.symm];rw[dZ oM,dZ oM,dZ oM,dZ oM,dZ oM,dZ oM];unfold XF;rw[Xz (sz:=6) (λ_ _=>rfl) 0 xs j a m d,aV]
 rw[dK oM,dK<|by simp only[bL];omega]
structure Z4(w wr:World)(lab:Nat->Nat×Nat×Nat)(base sb B:Nat)(s:Sr)(V:Int)(G n c:Nat)(xs:List Xe)(pv iv:Nat->Value)(av:Nat->Nat->Value)(b xb:Nat)(p:Value)(y:Xe)(ay:Nat->Value):Prop where
 blks:Xv wr lab (1,0,0) base 46 6 (.slice (some ⟨G,0,none⟩) n c) xs.length (XF pv iv xs)
 ps:∀i (h:i<xs.length),i≠b->Xv wr lab (2,i,0) base 106 2 (pv i) xs[i].ps.length (Yh (av i) xs[i].ps)
 ins:∀i (h:i<xs.length),i≠b->Xv wr lab (3,i,0) base 48 5 (iv i) xs[i].is.length (YC xs[i].is)
 args:∀i (h:i<xs.length) j (hj:j<xs[i].ps.length),i≠b->Kb wr lab (4,i,j) base (av i j) xs[i].ps[j].args
 yph:Xv wr lab (2,b,0) base 106 2 p y.ps.length (Yh ay y.ps)
 yin:Xv wr lab (3,b,0) base 48 5 (iv b) y.is.length (YC y.is)
 yar:∀j (hj:j<y.ps.length),Kb wr lab (4,b,j) base (ay j) y.ps[j].args
 dr:ZQ wr sb B s
 bb:B<=base
 os:wr.os=w.os
 tape:wr.tape=w.tape
 output:wr.output=w.output
 size:w.heap.size<=wr.heap.size
 low:∀q,q<base->q≠sb->wr.heap[q]?=w.heap[q]?
 fr:∀q,wr.heap.size<=q->lab q=(0,0,0)
 bs:base<=w.heap.size
 box:Bx wr w.heap.size #[.int .i64 V,.slice (some ⟨G,0,none⟩) n c] 25
 boxl:lab w.heap.size=(0,0,0)
 res:Bx wr (w.heap.size+1) #[.int .i64 0,.slice none 0 0] 25
 resl:lab (w.heap.size+1)=(0,0,0)
 xbx:Bx wr xb #[p,iv b,.int .i64 y.te.kind,.int .i64 y.te.a,.int .i64 y.te.to,.int .i64 y.te.els] 46
 xbl:lab xb=(0,0,0)
 xlt:w.heap.size+1<xb
variable {w wr w': World} {lab lab': Nat -> Nat×Nat×Nat} {base sb B: Nat} {s s': Sr} {V V': Int} {G n c: Nat} {xs: List Xe} {pv iv: Nat -> Value} {av: Nat -> Nat -> Value} {b xb: Nat} {p p': Value} {y y': Xe} {ay ay': Nat -> Value}
theorem Z4.step{o:Nat->Prop}(h:Z4 w wr lab base sb B s V G n c xs pv iv av b xb p y ay)(k:XW wr w' lab lab' base o)(f:∀q,(lab q).1≠0->(lab q).2.1≠b\/(lab q).1=1->o q)
 (E:Xv w' lab' (2,b,0) base 106 2 p' y'.ps.length (Yh ay' y'.ps)) (D:Xv w' lab' (3,b,0) base 48 5 (iv b) y'.is.length (YC y'.is)) (C:∀j (m:j<y'.ps.length),Kb w' lab' (4,b,j) base (ay' j) y'.ps[j].args)
 (dr:ZQ w' sb B s') (t:w'.os=wr.os) (x:w'.tape=wr.tape) (u:w'.output=wr.output) (low:∀q,q<base->q≠sb->w'.heap[q]?=wr.heap[q]?)
 (box:Bx w' w.heap.size #[Hp V',Hl G n c] 25) (r:lab' w.heap.size=(0,0,0)) (res:Bx w' (w.heap.size+1) #[Hp 0,Hq] 25) (v:lab' (w.heap.size+1)=(0,0,0)) (A:Bx w' xb #[p',iv b,Hp y'.te.kind,Hp y'.te.a,Hp y'.te.to,Hp y'.te.els] 46) (z:lab' xb=(0,0,0)):Z4 w w' lab' base sb B s' V' G n c xs pv iv av b xb p' y' ay':=by
 refine⟨h.blks.sp k λq e=>f q (by rw[e];simp) (aZ<|by rw[e]),λi d a=>(h.ps i d a).sp k (λq e=>f q (by rw[e];simp) (bC<|by rw[e];exact a)),λi d a=>(h.ins i d a).sp k (λq e=>f q (by rw[e];simp) (bC<|by rw[e];exact a)),λi d j m a=>(h.args i d j m a).sp k (λq e=>f q (by rw[e];simp) (bC<|by rw[e];exact a)),E,D,C,dr,h.bb,t.trans h.os,x.trans h.tape,u.trans h.output,aJ h.size k.size,λq g l=>(low q g l).trans (h.low q g l),k.fresh h.fr,h.bs,box,r,res,v,A,z,h.xlt⟩
theorem Z4.lt(h:Z4 w wr lab base sb B s V G n c xs pv iv av b xb p y ay):sb<base:=oP h.bb h.dr.bB
theorem Z4.call(h:Z4 w wr lab base sb B s V G n c xs pv iv av b xb p y ay)(g:wr.grownBy w' (some sb))(d:ZQ w' sb B s'):Z4 w w' lab base sb B s' V G n c xs pv iv av b xb p y ay:=by
 have k:XW wr w' lab lab base (λ_=>True):=XW.grown g h.lt;have m:=h.lt;have l:=h.bs;have r:=h.xlt;have o:=h.size;exact h.step k (λ_ _ _=>trivial) (h.yph.sp k λ_ _=>trivial) (h.yin.sp k λ_ _=>trivial) (λj f=>(h.yar j f).sp k λ_ _=>trivial) d g.os g.tape g.output (λq i a=>g.block q oM λe=>a<|by injection e) (h.box.grown g<|by intro e;injection e;omega) h.boxl (h.res.grown g<|by intro e;injection e;omega) h.resl (h.xbx.grown g<|by intro e;injection e;omega) h.xbl
theorem Z4.drew(h:Z4 w wr lab base sb B s V G n c xs pv iv av b xb p y ay):Z4 w wr.drew lab base sb B s V G n c xs pv iv av b xb p y ay:=h.call ⟨rfl,rfl,rfl,aA _,λ_ _ _=>rfl⟩ h.dr.drew
theorem Z4.alloc(h:Z4 w wr lab base sb B s V G n c xs pv iv av b xb p y ay)(o:Obj):Z4 w (wr.alloc o) lab base sb B s V G n c xs pv iv av b xb p y ay:=h.call (bW wr o<|some sb) (h.dr.box o)
theorem Z4.putB{g q:Nat}{u:Value}{t:Yj}(h:Z4 w wr lab base sb B s V G n c xs pv iv av b xb p y ay)(f:lab g=(0,0,0))(o:base<=g)(i:w.heap.size+1≠g)
 (box:Bx (wr.setCell ⟨g,q,none⟩ u) w.heap.size #[.int .i64 V',.slice (some ⟨G,0,none⟩) n c] 25) (m:Bx (wr.setCell ⟨g,q,none⟩ u) xb #[p,iv b,.int .i64 t.kind,.int .i64 t.a,.int .i64 t.to,.int .i64 t.els] 46):Z4 w (wr.setCell ⟨g,q,none⟩ u) lab base sb B s V' G n c xs pv iv av b xb p ⟨y.ps,y.is,t⟩ ay:=by
 have k:XW wr (wr.setCell (Hk g q) u) lab lab base (λb=>b≠g):=XW.put g q u;have d:∀q,(lab q).1≠0->q≠g:=λq a e=>a (by rw[e,f]);have:=h.bb;exact h.step k (λq a _=>d q a) (h.yph.sp k λq e=>d q<|by rw[e];simp) (h.yin.sp k λq e=>d q<|by rw[e];simp) (λl j=>(h.yar l j).sp k λq e=>d q<|by rw[e];simp) (h.dr.put oM) rfl rfl rfl (λq a _=>Below.heap_setCell _ _ _ _<|by show q≠g;omega) box h.boxl (h.res.other i) h.resl m h.xbl
theorem Z4.putV(h:Z4 w wr lab base sb B s V G n c xs pv iv av b xb p y ay)(z:Int):Z4 w (wr.setCell ⟨w.heap.size,0,none⟩ (.int .i64 z)) lab base sb B s z G n c xs pv iv av b xb p y ay:=by
 have:=h.xlt;refine h.putB (t:=y.te) h.boxl h.bs oM ?_ (h.xbx.other oM);have:=h.box.set 0<|Hp z;simpa using this
theorem Z4.putT(h:Z4 w wr lab base sb B s V G n c xs pv iv av b xb p y ay)(t:Yj)(q:Nat)(u:Value)(hq:(#[p,iv b,.int .i64 y.te.kind,.int .i64 y.te.a,.int .i64 y.te.to,.int .i64 y.te.els]:Array Value).setIfInBounds q u=#[p,iv b,.int .i64 t.kind,.int .i64 t.a,.int .i64 t.to,.int .i64 t.els]):Z4 w (wr.setCell ⟨xb,q,none⟩ u) lab base sb B s V G n c xs pv iv av b xb p ⟨y.ps,y.is,t⟩ ay:=by
 have:=h.xlt;have:=h.bs;refine h.putB h.xbl oM oM (h.box.other oM) ?_;have:=h.xbx.set q u;rw[hq]at this;exact this
structure KC(w w':World)(base sb:Nat)(a:Option Addr)(xs:List Xe):Prop where
 at_:Xp w' base w'.heap.size a xs
 os:w'.os=w.os
 tape:w'.tape=w.tape
 output:w'.output=w.output
 size:w.heap.size<=w'.heap.size
 low:∀q,q<base->q≠sb->w'.heap[q]?=w.heap[q]?
theorem Z4.done{u0 u1:Value}(h:Z4 w wr lab base sb B s V G n c xs pv iv av b xb p y ay)(a:b<xs.length):KC w ((((((((wr.setCell ⟨G,b*6,none⟩ p).setCell ⟨G,b*6+1,none⟩ (iv b)).setCell ⟨G,b*6+2,none⟩ (.int .i64 y.te.kind)).setCell ⟨G,b*6+3,none⟩ (.int .i64 y.te.a)).setCell ⟨G,b*6+4,none⟩ (.int .i64 y.te.to)).setCell ⟨G,b*6+5,none⟩ (.int .i64 y.te.els)).setCell ⟨w.heap.size+1,0,none⟩ u0).setCell ⟨w.heap.size+1,1,none⟩ u1) base sb (some ⟨G,0,none⟩) (xs.set b y):=by
 have C:=ZW h.blks;subst C;have A:=h.blks.blk.2;have f:=h.blks.blk.1.1;have E:=h.bs;have D:XW wr ((((((wr.setCell (Hk G<|b*6) p).setCell (Hk G<|b*6+1) (iv b)).setCell (Hk G<|b*6+2) (Hp y.te.kind)).setCell (Hk G<|b*6+3) (Hp y.te.a)).setCell (Hk G<|b*6+4) (Hp y.te.to)).setCell (Hk G<|b*6+5) (Hp y.te.els)) lab lab base (λb=>b≠G) :=
  ((((((XW.put G _ _).trans (XW.put G _ _)).trans (XW.put G _ _)).trans (XW.put G _ _)).trans (XW.put G _ _)).trans (XW.put G _ _)).weak λb a=>⟨⟨⟨⟨⟨a,a⟩,a⟩,a⟩,a⟩,a⟩
 have u:XW ((((((wr.setCell (Hk G<|b*6) p).setCell (Hk G<|b*6+1) (iv b)).setCell (Hk G<|b*6+2) (Hp y.te.kind)).setCell (Hk G<|b*6+3) (Hp y.te.a)).setCell (Hk G<|b*6+4) (Hp y.te.to)).setCell (Hk G<|b*6+5) (Hp y.te.els)) ((((((((wr.setCell (Hk G<|b*6) p).setCell (Hk G<|b*6+1) (iv b)).setCell (Hk G<|b*6+2) (Hp y.te.kind)).setCell (Hk G<|b*6+3) (Hp y.te.a)).setCell (Hk G<|b*6+4) (Hp y.te.to)).setCell (Hk G<|b*6+5) (Hp y.te.els)).setCell (Hk (w.heap.size+1) 0) u0).setCell (Hk (w.heap.size+1) 1) u1) lab lab base (λb=>b≠w.heap.size+1):=((XW.put _ _ _).trans (XW.put _ _ _)).weak λb a=>⟨a,a⟩;have v:∀q,(lab q).1≠0->q≠w.heap.size+1:=λq d e=>d (by rw[e,h.resl]);have g:∀q,(lab q).1≠0->lab q≠(1,0,0)->q≠G/\q≠w.heap.size+1:=λq d a=>⟨λe=>a (by rw[e];exact A),v q d⟩;have k:=D.trans u;have r:=(((((h.blks.set (b*6) p).set (b*6+1) (iv b)).set (b*6+2) (Hp y.te.kind)).set (b*6+3) (Hp y.te.a)).set (b*6+4) (Hp y.te.to)).set (b*6+5) (Hp y.te.els);rw[<-zR a]at r;have t:base<=w.heap.size+1:=oM;have l:=((((((((Below.refl base wr).setCell (p:=Hk G<|b*6) f p).setCell (p:=Hk G<|b*6+1) f (iv b)).setCell (p:=Hk G<|b*6+2) f (Hp y.te.kind)).setCell (p:=Hk G<|b*6+3) f (Hp y.te.a)).setCell (p:=Hk G<|b*6+4) f (Hp y.te.to)).setCell (p:=Hk G<|b*6+5) f (Hp y.te.els)).setCell (p:=Hk (w.heap.size+1) 0) t u0).setCell (p:=Hk (w.heap.size+1) 1) t u1;have z:=r.sp u (λq e=>v q<|by rw[e];simp);refine⟨EK (xs:=xs.set b y) (n:=xs.length) (c:=c) (pv:=λj=>if j=b then p else pv j) (iv:=λj=>if j=b then iv b else iv j) (av:=λj=>if j=b then ay else av j) (by rw[bL];exact z) (λi m=>?_) (λi m=>?_) λi m j o=>?_,l.os.trans h.os,l.tape.trans h.tape,l.output.trans h.output,aJ h.size l.size,λq d x=>(l.block q d).trans (h.low q d x)⟩
 .by_cases e:i=b
  .subst e;simp only[aU,cQ];exact h.yph.sp k λb e=>g b (by rw[e];simp) (by rw[e];simp)
  simp only[aM e,bI λe2=>e e2.symm];exact(h.ps i (by simpa using m) e).sp k λb e=>g b (by rw[e];simp) (by rw[e];simp)
 .by_cases e:i=b
  .subst e;simp only[aU,cQ];exact h.yin.sp k λb e=>g b (by rw[e];simp) (by rw[e];simp)
  simp only[aM e,bI λe2=>e e2.symm];exact(h.ins i (by simpa using m) e).sp k λb e=>g b (by rw[e];simp) (by rw[e];simp)
 by_cases e:i=b
 .subst e;simp only[cQ]at o |-;simp only[aU];exact(h.yar j o).sp k λb e=>g b (by rw[e];simp) (by rw[e];simp)
 simp only[bI λe2=>e e2.symm]at o |-;simp only[aM e];exact(h.args i (by simpa using m) j o e).sp k λb e=>g b (by rw[e];simp) (by rw[e];simp)
theorem IN.hand{v:Nat}(h:IN w wr lab base sb B s v G n c xs pv iv av)(e:b<xs.length):Z4 w (wr.alloc<|.cells #[pv b,iv b,.int .i64 xs[b].te.kind,.int .i64 xs[b].te.a,.int .i64 xs[b].te.to,.int .i64 xs[b].te.els] 46) lab base sb B s (v:Int) G n c xs pv iv av b wr.heap.size (pv b) xs[b] (av b):=by
 have a:=h.alloc<|.cells #[pv b,iv b,Hp xs[b].te.kind,Hp xs[b].te.a,Hp xs[b].te.to,Hp xs[b].te.els] 46;exact⟨a.fn.blks,λi d _=>a.fn.ps i d,λi d _=>a.fn.ins i d,λi d j f _=>(a.fn.args i d j f).intsL,a.fn.ps b e,a.fn.ins b e,λj f=>(a.fn.args b e j f).intsL,a.dr,a.bb,a.os,a.tape,a.output,a.size,a.low,λq hq=>a.fr q<|aJ a.size hq,a.bs,a.box,a.fr _<|aA _,a.res,a.fr _ oM,Bx.new _ _ _,a.fr _ h.size,h.res.lt⟩
end
section
variable {w wr w' w8: World} {lab lab': Nat -> Nat×Nat×Nat} {base sb B: Nat} {s s': Sr} {V V': Int} {G n c: Nat} {xs: List Xe} {pv iv: Nat -> Value} {av: Nat -> Nat -> Value} {b xb: Nat} {p p': Value} {y y': Xe} {ay ay': Nat -> Value}
theorem Vv{ps:List Ph}{j:Nat}{q:Ph}{v:Value}(a:j<ps.length)(hq:q.dst=ps[j].dst):Yh (λm=>if m=j then v else ay m) (ps.set j q)=(Yh ay ps).set (j*2+1) v:=by
 unfold Yh;exact Yr (f:=λj (p:Ph)=>[Hp p.dst,ay j]) (f':=λj (p:Ph)=>[Hp p.dst,if j=_ then v else ay j]) (sz:=2) (λ_ _=>rfl) 0 ps j a q 1 v oM (by rw[aV,aU rfl,hq];rfl) λm e d=>by rw[aV,aM d]
theorem Z4.setPh{a E F j:Nat}{v:Value}{f:List Int}(h:Z4 w wr lab base sb B s V G n c xs pv iv av b xb p y ay)(x:p=.slice (some ⟨a,0,none⟩) E F)(r:j<y.ps.length)(A:Kb wr lab (4,b,j) base v f) :
 Z4 w (wr.setCell ⟨a,j*2+1,none⟩ v) lab base sb B s V G n c xs pv iv av b xb p ⟨y.ps.set j ⟨y.ps[j].dst,f⟩,y.is,y.te⟩ (λm=>if m=j then v else ay m):=by
 subst x;have g:=h.yph;have u:=ZW g;subst u;have o:=g.blk.2;have H:=g.blk.1.1;have k:XW wr (wr.setCell (Hk a<|j*2+1) v) lab lab base (λb=>b≠a):=XW.put a _ v;have d:∀q,lab q≠(2,b,0)->q≠a:=λq i e=>i (by rw[e,o]);have:=h.bb;have C:=d _ (by rw[h.boxl];simp);have D:=d _ (by rw[h.xbl];simp);refine h.step k (λq i l=>d q λe=>by rw[e]at l;simp at l) ?_ (h.yin.sp k λq e=>d q<|by rw[e];simp) (λm t=>?_) (h.dr.put oM) rfl rfl rfl (λq i _=>Below.heap_setCell _ _ _ _<|by show q≠a;omega) (h.box.other C) h.boxl (h.res.other<|d _ (by rw[h.resl];simp)) h.resl (h.xbx.other D) h.xbl
 .have z:=g.set (j*2+1) v;show Xv _ lab (2,b,0) base 106 2 _ (y.ps.set j ⟨y.ps[j].dst,f⟩).length (Yh (λm=>if m=j then v else ay m) (y.ps.set j ⟨y.ps[j].dst,f⟩));rw[bL,Vv (q:=⟨y.ps[j].dst,f⟩) r rfl];exact z
 by_cases e:m=j
 .subst e;simp only[cQ,aU];exact A.sp k λq e=>d q<|by rw[e];simp
 simp only[bI λe2=>e e2.symm,aM e];exact(h.yar m<|by simpa using t).sp k λq e=>d q<|by rw[e];simp
theorem Z4.push{o:Obj}{A:Nat}{g:Value}(i:Z4 w wr lab base sb B s V G n c xs pv iv av b xb p y ay)(f:(wr.alloc o).grownBy w8 p.ownBlock)(M:w8.ownsRow base 106 2 g A (Yh ay y.ps++[.int .i64 0,.slice none 0 0]))(L:A=y.ps.length+1)(H:g.ownBlock=p.ownBlock\/g.ownBlock=some (wr.alloc o).heap.size) :
 Bx w8 xb #[p,iv b,.int .i64 y.te.kind,.int .i64 y.te.a,.int .i64 y.te.to,.int .i64 y.te.els] 46/\∃lab',Z4 w (w8.setCell ⟨xb,0,none⟩ g) lab' base sb B s V G n c xs pv iv av b xb g ⟨y.ps++[⟨0,[]⟩],y.is,y.te⟩ (λj=>if j=y.ps.length then .slice none 0 0 else ay j):=by
 have a:=i.alloc o;let⟨lab',N,x⟩:=a.yph.grow f M H a.fr;have P:=i.bb;have I:=i.bs;have S:=i.xlt;have R:=a.size;have r:=λq d h F=>x.same q d h F;have E:=r xb oM a.xbx.lt (by rw[a.xbl];simp);have C:=r w.heap.size I a.box.lt (by rw[a.boxl];simp);have D:=r (w.heap.size+1) oM a.res.lt (by rw[a.resl];simp);have u:=a.xbx.keep E.1;have t:∀q,q<base->w8.heap[q]?=(wr.alloc o).heap[q]?:=λq hq=>f.block q (oN a.size) (λe=>by have:=(a.yph.own.lt q e.symm).1;omega);have z:XW w8 (w8.setCell (Hk xb 0) g) lab' lab' base (λq=>q≠xb):=XW.put xb 0 g;have v:=E.2.trans a.xbl;have O:∀q,(lab' q).1≠0->q≠xb:=λq d e=>d (by rw[e,v]);have k:=x.trans z;have l:∀q,(lab q).1≠0->lab q≠(2,b,0)->lab q≠(2,b,0)/\q≠xb:=λq d h=>⟨h,λe=>d<|by rw[e,a.xbl]⟩;refine⟨u,lab',a.step k (λq d h=>l q d λe=>by rw[e]at h;simp at h) ?_ (a.yin.sp k λq e=>l q (by rw[e];simp) (by rw[e];simp)) (λm J=>?_) ?_ f.os f.tape f.output (λq d _=>(Below.heap_setCell _ _ _ _<|by show q≠xb;omega).trans (t q d)) ((a.box.keep C.1).other oM) (C.2.trans a.boxl) ((a.res.keep D.1).other oM) (D.2.trans a.resl) ?_ v⟩
 .subst L
  have e:Yh (λj=>if j=y.ps.length then Hq else ay j) (y.ps++[⟨0,[]⟩])=Yh ay y.ps++[Hp 0,Hq]:=by
   unfold Yh;rw[Zo,aV];dsimp only;rw[aU rfl,ZF (f':=λj (p:Ph)=>[Hp p.dst,ay j]) 0 y.ps λT Q=>by rw[aV,aM oM]]
  show Xv _ lab' (2,b,0) base 106 2 g (y.ps++[(⟨0,[]⟩:Ph)]).length (Yh (λj=>if j=y.ps.length then Hq else ay j) (y.ps++[(⟨0,[]⟩:Ph)]));rw[e,aQ];exact N.sp z λq e=>O q<|by rw[e];simp
 .by_cases e:m<y.ps.length
  .simp only[fA e,aM<|Nat.ne_of_lt e];exact(a.yar m e).sp k λq e=>l q (by rw[e];simp) (by rw[e];simp)
  have K:m=y.ps.length:=by simp at J;omega
  subst K;simp only[fN<|aA _,aU,kL,eM];exact Kb.nil
 .refine ZQ.put (a.dr.keep ⟨f.os,f.tape,f.output,f.size,λq hq=>t q oM⟩) oM
 have:=u.set 0 g;simpa using this
theorem Z4.push0{o:Obj}{F d np pc:Nat}{x h:Value}{f:List Int}(r:Z4 w wr lab base sb B s V G n c xs pv iv av b xb p y ay)(U:p=.slice (some ⟨d,0,none⟩) np pc)(z:0<y.ps.length)(X:Xv wr lab (4,b,0) base 2 1 x f.length (Xt f))(g:(wr.alloc o).grownBy w8 x.ownBlock)(T:w8.ownsRow base 2 1 h F (Xt f++[.int .i64 0]))(R:F=f.length+1)(L:h.ownBlock=x.ownBlock\/h.ownBlock=some (wr.alloc o).heap.size) :
 (Bx w8 xb #[p,iv b,.int .i64 y.te.kind,.int .i64 y.te.a,.int .i64 y.te.to,.int .i64 y.te.els] 46/\w8.cell? ⟨d,1,none⟩=some (ay 0)/\w8.frozen? ⟨d,1,none⟩=false)/\∃lab',Z4 w (w8.setCell ⟨d,1,none⟩ h) lab' base sb B s V G n c xs pv iv av b xb p ⟨y.ps.set 0 ⟨y.ps[0].dst,f++[0]⟩,y.is,y.te⟩ (λm=>if m=0 then h else ay m):=by
 have a:=r.alloc o;have C:=X.sp (XW.box o) λ_ _=>trivial;let⟨lab',W,u⟩:=C.grow g T L a.fr;have aa:=r.bb;have M:=r.bs;have hx:=r.xlt;have ac:=a.size;have v:=λq i j K=>u.same q i j K;have J:=v xb oM a.xbx.lt (by rw[a.xbl];simp);have H:=v w.heap.size M a.box.lt (by rw[a.boxl];simp);have I:=v (w.heap.size+1) oM a.res.lt (by rw[a.resl];simp);have D:=a.xbx.keep J.1;have A:∀q,q<base->w8.heap[q]?=(wr.alloc o).heap[q]?:=λq hq=>g.block q oM (λe=>by have:=(C.own.lt q e.symm).1;omega);subst U;have k:=a.yph.sp u (λq e=>by rw[e];simp);have S:=ZW k;subst S;have O:=k.blk.2;have ab:=k.blk.1.1;have P:=a.yph.blk.2;have E:XW w8 (w8.setCell (Hk d 1) h) lab' lab' base (λq=>q≠d):=XW.put d 1 h;have Z:∀q,lab' q≠(2,b,0)->q≠d:=λq i e=>i (by rw[e,O]);have l:∀q,lab q≠(2,b,0)->q≠d:=λq i e=>i<|by rw[e,P]
 have t:=u.trans E;have N:Cl w8 d 1 (ay 0):=k.cell (by
  unfold Yh;have:=Xz (sz:=2) (f:=λY (p:Ph)=>[Hp p.dst,ay Y]) (λ_ _=>rfl) 0 y.ps 0 z 1 oM;rw[lC,aV]at this;rw[this];rfl)
 refine⟨⟨D,N,k.thaw 1⟩,lab',a.step t (λq i j=>⟨λe=>by rw[e]at j;simp at j,l q λe=>by rw[e]at j;simp at j⟩) ?_ (a.yin.sp t λq e=>⟨by rw[e];simp,l q<|by rw[e];simp⟩) (λm Q=>?_) ?_ g.os g.tape g.output (λq i _=>(Below.heap_setCell _ _ _ _<|by show q≠d;omega).trans (A q i)) ((a.box.keep H.1).other (l _<|by rw[a.boxl];simp)) (H.2.trans a.boxl) ((a.res.keep I.1).other (l _<|by rw[a.resl];simp)) (I.2.trans a.resl) (D.other<|l _ (by rw[a.xbl];simp)) (J.2.trans a.xbl)⟩
 .show Xv _ lab' (2,b,0) base 106 2 _ (y.ps.set 0 ⟨y.ps[0].dst,f++[0]⟩).length (Yh (λm=>if m=0 then h else ay m) (y.ps.set 0 ⟨y.ps[0].dst,f++[0]⟩));rw[bL,Vv (q:=⟨y.ps[0].dst,f++[0]⟩) z rfl];exact k.set 1 h
 .by_cases e:m=0
  .subst e;simp only[cQ,aU];refine Kb.sp (Xv.intsL ?_) E (λq e=>Z q<|by rw[e];simp);subst R;have e2:Xt (f++[0])=Xt f++[Hp 0]:=by simp[Xt]
   rw[e2,aQ];exact W
  simp only[bI λe2=>e e2.symm,aM e];exact(a.yar m<|by simpa using Q).sp t λq e3=>⟨by rw[e3];simp;exact e,l q<|by rw[e3];simp⟩
 exact ZQ.put (a.dr.keep ⟨g.os,g.tape,g.output,g.size,λq hq=>A q oM⟩) oM
theorem Z4.setA{a u j m:Nat}{d:List Int}{z:Int}(h:Z4 w wr lab base sb B s V G n c xs pv iv av b xb p y ay)(o:0<y.ps.length)(g:Xv wr lab (4,b,0) base 2 1 (.slice (some ⟨a,0,none⟩) u j) d.length (Xt d))(C:ay 0=.slice (some ⟨a,0,none⟩) u j) :
 Z4 w (wr.setCell ⟨a,m,none⟩ (.int .i64 z)) lab base sb B s V G n c xs pv iv av b xb p ⟨y.ps.set 0 ⟨y.ps[0].dst,d.set m z⟩,y.is,y.te⟩ ay:=by
 have r:=ZW g;have v:=g.lab a rfl;have D:=(g.own.lt a rfl).1;have k:XW wr (wr.setCell (Hk a m) (Hp z)) lab lab base (λb=>b≠a):=XW.put a _ _;have f:∀q,lab q≠(4,b,0)->q≠a:=λq i e=>i (by rw[e,v]);have:=h.bb;refine h.step k (λq i l=>f q λe=>by rw[e]at l;simp at l) ?_ (h.yin.sp k λq e=>f q<|by rw[e];simp) (λt x=>?_) (h.dr.put oM) rfl rfl rfl (λq i _=>Below.heap_setCell _ _ _ _<|by show q≠a;omega) (h.box.other<|f _ (by rw[h.boxl];simp)) h.boxl (h.res.other<|f _ (by rw[h.resl];simp)) h.resl (h.xbx.other<|f _ (by rw[h.xbl];simp)) h.xbl
 .have A:=h.yph.sp k λq e=>f q<|by rw[e];simp
  have e:Yh ay (y.ps.set 0 ⟨y.ps[0].dst,d.set m z⟩)=Yh ay y.ps:=by
   have e1:=Vv (ay:=ay) (ps:=y.ps) (j:=0) (q:=⟨y.ps[0].dst,d.set m z⟩) (v:=ay 0) o rfl;have e2:=Vv (ay:=ay) (ps:=y.ps) (j:=0) (q:=y.ps[0]) (v:=ay 0) o rfl;have e3:(λm=>if m=0 then ay 0 else ay m)=ay:=by funext m;by_cases e:m=0;(rw[aU e,e]);(rw[aM e])
   rw[e3]at e1 e2;rw[e1,<-e2,fK]
  show Xv _ lab (2,b,0) base 106 2 p (y.ps.set 0 ⟨y.ps[0].dst,d.set m z⟩).length (Yh ay<|y.ps.set 0 ⟨y.ps[0].dst,d.set m z⟩);rw[bL,e];exact A
 by_cases e:t=0
 .subst e;simp only[cQ];rw[C];refine Xv.intsL ?_;rw[r]at g;have:=g.set m<|Hp z;have e2:Xt (d.set m z)=(Xt d).set m (Hp z):=by simp[Xt,List.map_set]
  rw[e2,bL,r];exact this
 simp only[bI λe2=>e e2.symm];exact(h.yar t<|by simpa using x).sp k λq e3=>f q<|by rw[e3];simp;exact e
theorem Z4.setI{a E D i m:Nat}{z:Int}{x':Yg}(h:Z4 w wr lab base sb B s V G n c xs pv iv av b xb p y ay)(u:i<y.is.length)(o:iv b=.slice (some ⟨a,0,none⟩) E D)(v:m<5)(C:x'.cells=y.is[i].cells.set m (.int .i64 z)) :
 Z4 w (wr.setCell ⟨a,i*5+m,none⟩ (.int .i64 z)) lab base sb B s V G n c xs pv iv av b xb p ⟨y.ps,y.is.set i x',y.te⟩ ay:=by
 have d:=h.yin;rw[o]at d;have A:=ZW d;have t:=d.lab a rfl;have F:=(d.own.lt a rfl).1;have k:XW wr (wr.setCell (Hk a<|i*5+m) (Hp z)) lab lab base (λb=>b≠a):=XW.put a _ _;have f:∀q,lab q≠(3,b,0)->q≠a:=λq g e=>g<|by rw[e,t]
 have:=h.bb;refine h.step k (λq g j=>f q λe=>by rw[e]at j;simp at j) (h.yph.sp k λq e=>f q<|by rw[e];simp) ?_ (λr l=>(h.yar r l).sp k λq e=>f q<|by rw[e];simp) (h.dr.put oM) rfl rfl rfl (λq g _=>Below.heap_setCell _ _ _ _<|by show q≠a;omega) (h.box.other<|f _ (by rw[h.boxl];simp)) h.boxl (h.res.other<|f _ (by rw[h.resl];simp)) h.resl (h.xbx.other<|f _ (by rw[h.xbl];simp)) h.xbl;have e:YC (y.is.set i x')=(YC y.is).set (i*5+m) (Hp z):=by
  unfold YC;exact Yr (f:=λ_ (x:Yg)=>x.cells) (f':=λ_ (x:Yg)=>x.cells) (sz:=5) (λ_ _=>rfl) 0 y.is i u x' m (Hp z) v C λr l _=>rfl
 show Xv _ lab (3,b,0) base 48 5 (iv b) (y.is.set i x').length (YC<|y.is.set i x');rw[bL,e,o];rw[A]at d |-;exact d.set (i*5+m) (Hp z)
theorem Z4.gcells(h:Z4 w wr lab base sb B s V G n c xs pv iv av b xb p y ay)(e:b<xs.length):(∃u,wr.cell? (Hk G<|b*6)=some u)/\(∃u,wr.cell? (Hk G<|b*6+1)=some u)/\(∃u,wr.cell? (Hk G<|b*6+2)=some u)/\(∃u,wr.cell? (Hk G<|b*6+3)=some u)/\(∃u,wr.cell? (Hk G<|b*6+4)=some u)/\(∃u,wr.cell? (Hk G<|b*6+5)=some u)/\∀q,wr.frozen? (Hk G q)=false:=by
 have d:=h.blks;have f:=ZW d;subst f;have a:∀q u,q<6->(UT (pv b) (iv b) xs[b].te)[q]?=some u->wr.cell? (Hk G<|b*6+q)=some u:=λq u hq g=>d.cell (by
  unfold XF;rw[Xz (λ_ _=>KU _ _ _) 0 xs b e q hq,aV];exact g)
 exact⟨⟨_,a 0 _ oM rfl⟩,⟨_,a 1 _ oM rfl⟩,⟨_,a 2 _ oM rfl⟩,⟨_,a 3 _ oM rfl⟩,⟨_,a 4 _ oM rfl⟩,⟨_,a 5 _ oM rfl⟩,λq=>d.thaw q⟩
theorem Z4.icells{a r o i:Nat}(h:Z4 w wr lab base sb B s V G n c xs pv iv av b xb p y ay)(j:i<y.is.length)(m:iv b=.slice (some ⟨a,0,none⟩) r o):(∃u,wr.cell? ⟨a,i*5,none⟩=some u)/\(∃u,wr.cell? ⟨a,i*5+1,none⟩=some u)/\(∃u,wr.cell? ⟨a,i*5+2,none⟩=some u)/\(∃u,wr.cell? ⟨a,i*5+3,none⟩=some u)/\(∃u,wr.cell? ⟨a,i*5+4,none⟩=some u)/\(∀q,wr.frozen? ⟨a,q,none⟩=false)/\xb≠a/\w.heap.size≠a:=by
 have d:=h.yin;rw[m]at d;have k:=ZW d;rw[k]at d;have g:=d.lab a rfl;have e:∀q u,q<5->(y.is[i].cells)[q]?=some u->wr.cell? (Hk a<|i*5+q)=some u:=λq u hq l=>d.cell (by
  unfold YC;rw[Xz (sz:=5) (λ_ _=>rfl) 0 y.is i j q hq];exact l)
 exact⟨⟨_,e 0 _ oM rfl⟩,⟨_,e 1 _ oM rfl⟩,⟨_,e 2 _ oM rfl⟩,⟨_,e 3 _ oM rfl⟩,⟨_,e 4 _ oM rfl⟩,λq=>d.thaw q,λf=>by have:=h.xbl;rw[f,g]at this;simp at this,λf=>by have:=h.boxl;rw[f,g]at this;simp at this⟩
theorem Z4.pcells{a l m:Nat}(h:Z4 w wr lab base sb B s V G n c xs pv iv av b xb p y ay)(g:0<y.ps.length)(j:p=.slice (some ⟨a,0,none⟩) l m):wr.cell? ⟨a,1,none⟩=some (ay 0)/\(∀q,wr.frozen? ⟨a,q,none⟩=false)/\xb≠a/\w.heap.size≠a:=by
 subst j;have d:=h.yph;have i:=ZW d;rw[i]at d;have f:=d.lab a rfl;refine⟨d.cell (by
  unfold Yh;have:=Xz (sz:=2) (f:=λk (p:Ph)=>[Hp p.dst,ay k]) (λ_ _=>rfl) 0 y.ps 0 g 1 oM;rw[lC,aV]at this;rw[this];rfl),λq=>d.thaw q,λe=>by have:=h.xbl;rw[e,f]at this;simp at this,λe=>by have:=h.boxl;rw[e,f]at this;simp at this⟩
theorem Z4.gne{q:Nat}(h:Z4 w wr lab base sb B s V G n c xs pv iv av b xb p y ay)(hq:lab q=(0,0,0)):q≠G:=λe=>by
 have a:=ZW h.blks;subst a;have:=h.blks.blk.2;rw[<-e,hq]at this;simp at this
theorem Z4.gxb(h:Z4 w wr lab base sb B s V G n c xs pv iv av b xb p y ay):G≠xb:=λe=>h.gne h.xbl e.symm
theorem Z4.gbox(h:Z4 w wr lab base sb B s V G n c xs pv iv av b xb p y ay):w.heap.size≠G:=h.gne h.boxl
theorem Z4.gres(h:Z4 w wr lab base sb B s V G n c xs pv iv av b xb p y ay):w.heap.size+1≠G:=h.gne h.resl
end
section
def Xr{T:Type}(f:T->T)(k:Nat)(l:List T):List T:=(l.take k).map f++l.drop k
variable {T: Type} {f: T -> T}
theorem Ys(k:Nat)(l:List T):(Xr f k l).length=l.length:=by simp[Xr];omega
theorem Tf(l:List T):Xr f 0 l=l:=by simp[Xr]
theorem Uj(l:List T):Xr f l.length l=l.map f:=by simp[Xr]
theorem Vw{k:Nat}{l:List T}(h:k<l.length)(a:k<(Xr f k l).length):(Xr f k l)[k]=l[k]:=by
 have e:(Xr f k l)[k]?=l[k]?:=by
  unfold Xr;rw[eV<|by simp;omega];simp only[bK,dH,jA];congr 1;omega
 rw[aC a,aC h]at e;injection e
theorem TR{k:Nat}{l:List T}(h:k<l.length):(Xr f k l).set k (f l[k])=Xr f (k+1) l:=by
 refine iG λr=>?_;by_cases e:k=r
 .subst e;rw[mM<|by rw[Ys];exact h];unfold Xr;rw[dL<|by simp;omega];simp[h]
 rw[dZ e];unfold Xr;by_cases a:r<k
 .rw[dL (by simp;omega),dL<|by simp;omega];simp only[dX,fH a,fH<|show r<k+1 by omega]
 rw[eV (by simp;omega),eV<|by simp;omega];simp only[bK,dH,jA];congr 1;omega
noncomputable def rB:Code:=(f71.body.getD .skip)
noncomputable def Mf:Code:=(Kh rB).getD 0 .skip
noncomputable def Mh:Code:=(Kh Mf).getD 0 .skip
noncomputable def M6:Code:=(Kh Mf).getD 1 .skip
noncomputable def M7:Code:=(Kh Mh).getD 0 .skip
theorem fy(a:List Value)(h:a.length=161):∃f:Nat->Value,a=ae f 9 161:=eo 9 161 a h
structure KG(w wr:World)(lab:Nat->Nat×Nat×Nat)(base:Nat)(v G n c:Nat)(xs:List Xe)(pv iv:Nat->Value)(av:Nat->Nat->Value):Prop where
 fn:ZU wr lab base (.slice (some ⟨G,0,none⟩) n c) xs pv iv av
 bel:Below base w wr
 kept:∀b,b<w.heap.size->lab b=(0,0,0)->wr.heap[b]?=w.heap[b]?
 fr:∀b,w.heap.size<=b->lab b=(0,0,0)
 bs:base<=w.heap.size
 box:Bx wr w.heap.size #[.int .i64 (v:Int),.slice (some ⟨G,0,none⟩) n c] 25
 res:Bx wr (w.heap.size+1) #[.int .i64 0,.slice none 0 0] 25
variable {w wr w': World} {lab: Nat -> Nat×Nat×Nat} {base v G n c: Nat} {xs xs': List Xe} {pv iv: Nat -> Value} {av: Nat -> Nat -> Value}
theorem KG.step(h:KG w wr lab base v G n c xs pv iv av)(i:ZU w' lab base (Hl G n c) xs' pv iv av)(a:∀b,b<wr.heap.size->lab b=(0,0,0)->w'.heap[b]?=wr.heap[b]?)(g:Below base wr w'):KG w w' lab base v G n c xs' pv iv av :=
 ⟨i,h.bel.trans g,λb d e=>(a b (aX d h.bel.size) e).trans (h.kept b d e),h.fr,h.bs,h.box.keep<|a _ h.box.lt (h.fr _<|aA _),h.res.keep<|a _ h.res.lt (h.fr _<|gX _)⟩
theorem KG.put{g q:Nat}{u:Value}(h:KG w wr lab base v G n c xs pv iv av)(d:ZU (wr.setCell ⟨g,q,none⟩ u) lab base (.slice (some ⟨G,0,none⟩) n c) xs' pv iv av)(i:lab g≠(0,0,0))(a:base<=g):KG w (wr.setCell ⟨g,q,none⟩ u) lab base v G n c xs' pv iv av :=
 h.step d (λb _ e=>Below.heap_setCell _ _ _ _ λe2=>i<|by rw[show g=b from e2.symm];exact e) ((Below.refl base wr).setCell a u)
theorem KG.alloc(h:KG w wr lab base v G n c xs pv iv av)(o:Obj):KG w (wr.alloc o) lab base v G n c xs pv iv av:=by
 have k:XW wr (wr.alloc o) lab lab base (λ_=>True):=XW.box o;exact h.step (h.fn.sp k 0 (λ_ _ _ _ _=>trivial) (bC λ_ _=>trivial)) (λb a _=>Below.heap_alloc _ _ _ a) (Below.alloc (Below.refl _ _) (aJ h.bs h.bel.size) o)
theorem KG.drew(h:KG w wr lab base v G n c xs pv iv av):KG w wr.drew lab base v G n c xs pv iv av:=h.step (h.fn.sp (ok:=λ_=>True) ⟨aA _,λ_ _ _ _=>⟨rfl,rfl⟩,λd b a=>d b a⟩ 0 (λ_ _ _ _ _=>trivial) (bC λ_ _=>trivial)) (λ_ _ _=>rfl) (Below.refl _ _).drew
theorem KG.putx{g q:Nat}{u:Value}(h:KG w wr lab base v G n c xs pv iv av)(m:w.heap.size+2<=g):KG w (wr.setCell ⟨g,q,none⟩ u) lab base v G n c xs pv iv av:=by
 have l:=h.bs;have j:=h.fr g oM;have k:XW wr (wr.setCell (Hk g q) u) lab lab base (λb=>b≠g):=XW.put g q u;have d:∀b,(lab b).1≠0->b≠g:=λb a e=>a (by rw[e,j]);refine⟨h.fn.sp k 0 (λb a _ _ _=>d b a) (bC λb e=>d b (by rcases e with e|e<;>rw[e]<;>simp)),h.bel.trans ((Below.refl base wr).setCell (p:=Hk g q) (by show base<=g;omega) u),λb a i=>(Below.heap_setCell _ _ _ _<|by show b≠g;omega).trans (h.kept b a i),h.fr,h.bs,h.box.other oM,h.res.other oM⟩
end
structure MR(w w':World)(lab:Nat->Nat×Nat×Nat)(base sb B:Nat)(s:Sr)(G n c:Nat)(xs:List Xe)(pv iv:Nat->Value)(av:Nat->Nat->Value):Prop where
 fn:ZU w' lab base (.slice (some ⟨G,0,none⟩) n c) xs pv iv av
 dr:ZQ w' sb B s
 os:w'.os=w.os
 tape:w'.tape=w.tape
 output:w'.output=w.output
 size:w.heap.size<=w'.heap.size
 low:∀b,b<base->b≠sb->w'.heap[b]?=w.heap[b]?
 fr:∀b,w.heap.size<=b->lab b=(0,0,0)
theorem IN.done{wr:World}{s:Sr}{av:Nat->Nat->Value}{u0 u1:Value}(a:IN w wr Z n m k s B g i c x h H av):MR w ((wr.setCell ⟨w.heap.size+1,0,none⟩ u0).setCell ⟨w.heap.size+1,1,none⟩ u1) Z n m k s g i c x h H av:=by
 have o:=a.fr (w.heap.size+1) (gX _);have r:=a.bs;have q:=a.bb;have p:XW wr ((wr.setCell (Hk (w.heap.size+1) 0) u0).setCell (Hk (w.heap.size+1) 1) u1) Z Z n (λb=>b≠w.heap.size+1):=((XW.put _ _ _).trans (XW.put _ _ _)).weak λ_ j=>⟨j,j⟩;have f:∀b,(Z b).1≠0->b≠w.heap.size+1:=λb d e=>d (by rw[e,o]);refine⟨a.fn.sp p 0 (λb d _ _ _=>f b d) (bC λb e=>f b (by rcases e with e|e<;>rw[e]<;>simp)),(a.dr.put oM).put oM,a.os,a.tape,a.output,by simpa [World.setCell]using a.size,λb d l=>?_,a.fr⟩;have f:b≠w.heap.size+1:=oM;exact((Below.heap_setCell _ _ _ _ f).trans (Below.heap_setCell _ _ _ _ f)).trans (a.low b d l)
theorem zA(V G n c:Nat)(a:List Xe)(H:Nat->Nat×Nat×Nat)(E:Nat)(pv iv:Nat->Value)(av:Nat->Nat->Value)(t B:Nat)(s:Sr)(w:World)(hF:Hs (ZU w H E (Hl G n c) a pv iv av))(hn:Hs (n=a.length))(h1:1<=n)(ch:n<=11)(bv:E<=w.heap.size)(bx:Hs (∀b,w.heap.size<=b->H b=(0,0,0)))(bb:Hs (ZQ w t B s))(bt:B<=E)(hV:V<=1000)(ca:Hs (Kg a))(br:Hs (∀ce∈a,∀cd∈ce.ps,0<cd.args.length)) :
 Calls prog 28 #[.agg #[Hp V,Hl G n c],Hn t] w λg w'=>g=.returned (.agg #[Hp V,Hl G n c])/\MR w w' H E t B (ZM V a s).2 G n c (ZM V a s).1 pv iv av:=by
 have d:Hs (ZM V a s=kg a (Ax s (n:Int)).1.toNat (Ax (Ax s (n:Int)).2 (V:Int)).1 (Ax (Ax s (n:Int)).2 (V:Int)).2):=Xa (by rw[hn.o];rfl);have af:Hs (IN w ((w.alloc<|.cells #[Hp V,Hl G n c] 25).alloc (.cells #[Hp 0,Hq] 25)) H E t B s V G n c a pv iv av):=Xa (by
  have bl:XW w ((w.alloc<|.cells #[Hp V,Hl G n c] 25).alloc (.cells #[Hp 0,Hq] 25)) H H E (λ_=>True):=((XW.box _).trans (XW.box _)).weak λ_ _=>⟨trivial,trivial⟩;refine⟨hF.sp bl 0 (λ_ _ _ _ _=>trivial) (bC λ_ _=>trivial),(bb.box _).box _,bt,rfl,rfl,rfl,bl.size,λb h _=>(Below.heap_alloc _ _ _<|by simp;omega).trans (Below.heap_alloc _ _ _ oM),bx,bv,(Bx.new _ _ _).box _,?_⟩;have:=Bx.new (w.alloc<|.cells #[Hp V,Hl G n c] 25) #[Hp 0,Hq] 25;rwa[aO]at this)
 clear hF bb
 go_in
 have x1:((w.alloc<|.cells #[Hp V,Hl G n c] 25).alloc (.cells #[Hp 0,Hq] 25)).cell? (Hk w.heap.size 1)=some (Hl G n c):=Bx.cell af.box rfl;go_wp2_with fail
 generalize (w.alloc _).alloc _=w0 at*;refine(XC t B s (n:Int) w0 (Xa af.dr) oM oM).mono ?_;rintro g w1⟨rfl,m,j⟩;have ap:=λi=>XE s (n:=(n:Int)) i;have L:=Xa<|af.call j m;let⟨rb,s1,o⟩:∃C D,Ax s (n:Int)=(C,D):=⟨_,_,rfl⟩;rw[o]at L d ap |-;dsimp only at L d ap |-;have b1:=ap oM;obtain⟨b,rfl⟩:=Zv b1.1;rw[dM]at d;clear m j o af x1 ap;have y0:=Bx.c L.box 0;go_wp2_with fail
 refine(XC t B s1 (V:Int) w1 (Xa L.dr) oM oM).mono ?_;rintro g S⟨rfl,m,j⟩;have a4:=λi=>XE s1 (n:=(V:Int)) i;have z:=Xa<|L.call j m;let⟨R,s2,o⟩:∃C D,Ax s1 (V:Int)=(C,D):=⟨_,_,rfl⟩;rw[o]at z d a4 |-;dsimp only at z d a4 |-;clear m j o L y0 a4;have h:b<a.length:=oN hn.o;have cf:b<n:=oM;have P:a.getD b XV=a[b]:=by simp[h]
 have a9:=Xa<|ca.o _ (aH h);have bm:=Xa<|br.o _ (aH h);have x1:=Bx.c z.box 1;let⟨p0,p1,⟨t0,t1,t2,t3⟩⟩:=z.fn.cells h;let⟨pa,pc,aa⟩:=(z.fn.ps b h).form;let⟨v,K⟩:∃v,v=a[b].ps.length:=⟨_,rfl⟩;rw[<-K]at aa;let⟨ia,ic,Z⟩:=(z.fn.ins b h).form;let⟨p,N⟩:∃p,p=a[b].is.length:=⟨_,rfl⟩;rw[<-N]at Z;rw[aa]at p0;rw[Z]at p1;have ax:=Xa K;have ar:=Xa N;have ci:p<=1000:=oN a9.o;clear K N
 go_upto_region 4 with fail
 have aj:=Xa<|z.alloc (.cells #[.slice pa v pc,.slice ia p ic,Hp a[b].te.kind,Hp a[b].te.a,Hp a[b].te.to,Hp a[b].te.els] 46);have al:Hs (Bx (S.alloc<|.cells #[.slice pa v pc,.slice ia p ic,Hp a[b].te.kind,Hp a[b].te.a,Hp a[b].te.to,Hp a[b].te.els] 46) S.heap.size #[.slice pa v pc,.slice ia p ic,Hp a[b].te.kind,Hp a[b].te.a,Hp a[b].te.to,Hp a[b].te.els] 46):=Xa<|Bx.new _ _ _;have ba:Hs (w.heap.size+2<=S.heap.size):=Xa z.res.lt;have a1:Hs (t≠S.heap.size):=Xa<|oP z.lt ba.o;clear z x1 p0 p1 t0 t1 t2 t3;generalize S.alloc _=wx at*;generalize S.heap.size=xb at*;have q0:=Bx.c al 0
 go_cut [31]from 9 to 82 λbp T=>∃(ad:Bool)(s3:Sr),bp=.bool ad/\Hs (IN w T H E t B s3 V G n c a pv iv av)/\Hs (Bx T xb #[.slice pa v pc,.slice ia p ic,Hp a[b].te.kind,Hp a[b].te.a,Hp a[b].te.to,Hp a[b].te.els] 46)/\Hs (ad=true->0<v/\ZM V a s=(a.set b<|a[b].setPhi 0 ⟨(a[b].ps.getD 0 Wo).dst,(a[b].ps.getD 0 Wo).args.set (Ax s3 (a[b].ps.getD 0 Wo).args.length).1.toNat R⟩,(Ax s3 (a[b].ps.getD 0 Wo).args.length).2))/\Hs (ad=false->ZM V a s=U1 a b R s3)
 case first=>
  rw[kg,P,<-ax.o]at d;by_cases K:0<v
  .have b6:(0:Int)<v:=oM;rw[aU K]at d;go_wp2_with fail
   refine(XC t B s2 3 wx (Xa aj.dr) oM oM).mono ?_;rintro g w3⟨rfl,m,j⟩;have a5:=λi=>XE s2 (n:=3) i;have l:=Xa<|aj.call j m;let⟨r3,s3,o⟩:∃C D,Ax s2 3=(C,D):=⟨_,_,rfl⟩;rw[o]at l d a5 |-;dsimp only at l d a5 |-;have A:=Xa (al.grown j λg=>a1<|by injection g with g;exact g.symm);clear m j o a5;by_cases O:r3=0
   .have b8:(r3==0)=true:=by simpa using O
    rw[aU O]at d;clear O;go_wp2;go_meet;exact⟨true,s3,rfl,l,A,Xa λ_=>⟨K,d⟩,Xa λi=>by cases i⟩
   have b8:(r3==0)=false:=by simpa using O
   rw[aM O]at d;clear O;go_wp2;go_meet;exact⟨false,s3,rfl,l,A,Xa (λi=>by cases i),Xa λ_=>d⟩
  have b6:¬(0:Int)<v:=oM;rw[aM K]at d;go_wp2;go_meet;exact⟨false,s2,rfl,aj,al,Xa (λi=>by cases i),Xa λ_=>d⟩
 obtain⟨ad,s3,rfl,l,A,a0,az⟩:=hcut;clear aj al d q0;generalize wc=w3 at*;cases ad with
 |true=>
  have ay:=Xa<|a0.o rfl;clear a0 az;have cj:=ay.1;have d:=Xa ay.2;clear ay;have F:0<a[b].ps.length:=oN ax.o
  rw[show a[b].ps.getD 0 Wo=a[b].ps[0] by simp[F]]at d;have bf:=bm _<|aH F;have b4:=a9.2.1 _<|aH F;let⟨Y,c2,bi⟩:=(l.fn.ps b h).got F;rw[<-ax.o,aa]at bi;injection bi with e1 _ e3;subst e1 e3;let⟨X,ac,ao⟩:=(l.fn.args b h 0 F).got bf;let⟨I,a7⟩:∃I,I=a[b].ps[0].args.length:=⟨_,rfl⟩;rw[<-a7]at ao d bf b4;have bn:=Xa a7;clear a7;have a8:Hs (∀a2 sx,IN w a2 H E t B sx V G n c a pv iv av->a2.cell? (Hk Y 1)=some (Hl X I ac)):=Xa (λa2 sx hW=>by
   have:=(hW.fn.phiCells h F aa).2;rw[ao]at this;simpa using this)
  have q0:=Bx.c A 0;have q1:=a8 _ _ l;go_wp2_with fail
  refine Y7 (λw'=>w'.cell? (Hk xb 0)=some (Hl Y v pc)/\w'.cell? (Hk Y 1)=some (Hl X I ac)) λhHeld=>?_;refine Xn 0 ?_;refine Xn 1 ?_;refine Xn 2 ?_;refine Xn 3 ?_;refine Xn 4 ?_;refine Xn 5 ?_;refine Xn 6 ?_;refine Xn 7 ?_;refine Xn 8 ?_;refine Xn 9 ?_;refine Xn 10 ?_;refine Xn 11 ?_;refine Xn 13 ?_;refine Xs 12 λbo hK=>?_;go_simp
  go_at_call 27
  refine(XC t B s3 (I:Int) _ (Xa l.drew.dr) oM oM).mono ?_;rintro g w4⟨rfl,m,j⟩;have a6:=XE s3 (n:=(I:Int)) oM;have k:=Xa<|l.drew.call j m;have U:=Xa (Bx.grown (w:=w3.drew) A j λg=>a1<|by injection g with g;exact g.symm);let⟨rk,s4,o⟩:∃C D,Ax s3 (I:Int)=(C,D):=⟨_,_,rfl⟩;rw[o]at k d a6 |-;dsimp only at k d a6 |-;obtain⟨kk,rfl⟩:=Zv a6.1;rw[dM]at d;have b0:kk<I:=oM;have bz:kk<a[b].ps[0].args.length:=by rw[<-bn.o];exact b0
  let⟨u,r,bw,ab⟩:=k.fn.setArg (k:=kk) (d:=R) h F bz ao;have J:=((k.fn.args b h 0 F).own.lt X (by rw[ao];rfl)).1;have e:=Xa (k.put u (by rw[r];simp) J);have z0:=Bx.c U 0;have z1:=a8 _ _ k;have b7:Y≠X:=λg=>by have:=(k.fn.ps b h).lab Y (by rw[aa];rfl);rw[g,r]at this;simp at this
  have cc:xb≠X:=λg=>by have:=k.fr xb<|oN ba.o;rw[g,r]at this;simp at this
  clear m j o u;refine hK _ _ ⟨z0,z1⟩ λhHeld=>?_;clear hK;refine Xn 14 ?_;refine Xs 15 λbo hK=>?_;go_simp;refine hK _ _ ⟨(Xc<|Below.heap_setCell _ _ _ _ cc).trans z0,(Xc<|Below.heap_setCell _ _ _ _ b7).trans z1⟩ λhHeld=>?_;clear hK;refine Yq ?_;clear hHeld z0 z1 q0 q1 bw ab;have M:=Xa e.o;generalize w4.setCell _ _=w9 at*;have W:=Bx.c M.box 0;have f1:=Bx.c M.box 1;have x:=Bx.c M.res 0;have y:=Bx.c M.res 1;have rz:=Bx.thaw M.res;go_wp2;rw[d.o];exact cC (v:=.agg #[Hp V,Hl G n c]) (by simp[results,results28,go_sem,x,y]) rfl ⟨rfl,M.done⟩
 |false=>
  have d:=Xa<|az.o rfl;clear a0 az;rw[U1,P,<-ar.o]at d;have q1:=Bx.c A 1;have q2:=Bx.c A 2;by_cases N:0<p
  .have b5:(0:Int)<p:=oM;rw[aU N]at d;go_wp2_with fail
   refine(XC t B s3 (p:Int) w3 (Xa l.dr) oM oM).mono ?_;rintro g w4⟨rfl,m,j⟩;have aq:=λi=>XE s3 (n:=(p:Int)) i;have k:=Xa<|l.call j m;let⟨ri,s4,o⟩:∃C D,Ax s3 (p:Int)=(C,D):=⟨_,_,rfl⟩;rw[o]at k d aq |-;dsimp only at k d aq |-;have U:=Xa (A.grown j λg=>a1<|by injection g with g;exact g.symm);have b3:=aq oM;obtain⟨Q,rfl⟩:=Zv b3.1;rw[dM]at d;clear m j o aq q1 q2 l A;have bc:Q<a[b].is.length:=oN ar.o;have cg:Q<p:=oM;rw[show a[b].is.getD Q ⟨0,0,0,0,0⟩=a[b].is[Q] by simp[bc]]at d;let⟨bq,c2,bd⟩:=(k.fn.ins b h).got oM;rw[<-ar.o,Z]at bd;injection bd with e1 _ e3;subst e1 e3;have q1:=Bx.c U 1;have q2:=Bx.c U 2;let⟨u,r,⟨i0,i1,i2,i3,i4⟩,ab⟩:=k.fn.setInsA (d:=R) h bc Z;have J:=((k.fn.ins b h).own.lt bq (by rw[Z];rfl)).1;have e:=Xa (k.put u (by rw[r];simp) J);clear u;go_wp2_with fail
   refine(kh a[b].is[Q].op w4).mono ?_;rintro g w5⟨rfl,cb⟩;subst cb;cases ha:aB a[b].is[Q].op with
   |true=>
    rw[aU ha]at d
    go_upto_region 11 with fail
    generalize w5.setCell _ _=w9 at*;have W:=Bx.c e.box 0;have f1:=Bx.c e.box 1;have x:=Bx.c e.res 0;have y:=Bx.c e.res 1;have rz:=Bx.thaw e.res;go_wp2;rw[d.o];exact cC (v:=.agg #[Hp V,Hl G n c]) (by simp[results,results28,go_sem,x,y]) rfl ⟨rfl,e.done⟩
   |false=>
    rw[aM<|by rw[ha];simp]at d;have f:=k;generalize w5=T at*;clear e i0 i1 i2 i3 i4 ab r U;by_cases q:a[b].te.kind=1
    .have a3:(a[b].te.kind != 1)=false:=by simpa using q
     rw[KM,P,aM λi=>i q]at d;clear q;have W:=Bx.c f.box 0;have f1:=Bx.c f.box 1;have x:=Bx.c f.res 0;have y:=Bx.c f.res 1;have rz:=Bx.thaw f.res;go_wp2;rw[d.o];exact cC (v:=.agg #[Hp V,Hl G n c]) (by simp[results,results28,go_sem,x,y]) rfl ⟨rfl,f.done⟩
    have a3:(a[b].te.kind != 1)=true:=by simpa using q
    rw[KM,P,aU q]at d;clear q;let⟨u,r,ab⟩:=f.fn.setTerA (d:=R) h;have J:=(f.fn.blks.own.lt G rfl).1;have e:=Xa (f.put u (by rw[r];simp) J);have x1:=Bx.c f.box 1;obtain⟨-,-,-,t1,-,-⟩:=f.fn.cells h;clear u r
    go_upto_region 14 with fail
    generalize T.setCell _ _=w9 at*;have W:=Bx.c e.box 0;have f1:=Bx.c e.box 1;have x:=Bx.c e.res 0;have y:=Bx.c e.res 1;have rz:=Bx.thaw e.res;go_wp2;rw[d.o];exact cC (v:=.agg #[Hp V,Hl G n c]) (by simp[results,results28,go_sem,x,y]) rfl ⟨rfl,e.done⟩
  have b5:¬(0:Int)<p:=oM;rw[aM N]at d;have f:=l;generalize w3=T at*;clear A;by_cases q:a[b].te.kind=1
  .have a3:(a[b].te.kind != 1)=false:=by simpa using q
   rw[KM,P,aM λi=>i q]at d;clear q;have W:=Bx.c f.box 0;have f1:=Bx.c f.box 1;have x:=Bx.c f.res 0;have y:=Bx.c f.res 1;have rz:=Bx.thaw f.res;go_wp2;rw[d.o];exact cC (v:=.agg #[Hp V,Hl G n c]) (by simp[results,results28,go_sem,x,y]) rfl ⟨rfl,f.done⟩
  have a3:(a[b].te.kind != 1)=true:=by simpa using q
  rw[KM,P,aU q]at d;clear q;let⟨u,r,ab⟩:=f.fn.setTerA (d:=R) h;have J:=(f.fn.blks.own.lt G rfl).1;have e:=Xa (f.put u (by rw[r];simp) J);have x1:=Bx.c f.box 1;obtain⟨-,-,-,t1,-,-⟩:=f.fn.cells h;clear u r
  go_upto_region 14 with fail
  generalize T.setCell _ _=w9 at*;have W:=Bx.c e.box 0;have f1:=Bx.c e.box 1;have x:=Bx.c e.res 0;have y:=Bx.c e.res 1;have rz:=Bx.thaw e.res;go_wp2;rw[d.o];exact cC (v:=.agg #[Hp V,Hl G n c]) (by simp[results,results28,go_sem,x,y]) rfl ⟨rfl,e.done⟩
noncomputable def tB:Code:=(f70.body.getD .skip)
noncomputable def NT:Code:=(Kh tB).getD 0 .skip
noncomputable def Mw:Code:=(Kh tB).getD 1 .skip
noncomputable def Ma:Code:=(Kh Mw).getD 0 .skip
noncomputable def Mm:Code:=(Kh Ma).getD 0 .skip
noncomputable def NA:Code:=(Kh Mm).getD 0 .skip
theorem Tj(a:List Value)(h:a.length=134):∃f:Nat->Value,a=ae f 15 134:=eo 15 134 a h
def Jz(n:Nat)(a args:List Int)(z:Int)(m:Nat):List Int:=(List.range m).filterMap λm=>if a.getD m 0=J1 z n then some (args.getD m 0)else none
theorem za(n:Nat)(a args:List Int)(z:Int):Jz n a args z a.length=Wy n a args z:=rfl
theorem zp{was args:List Int}(h:was.getD m 0=J1 z n):Jz n was args z (m+1)=Jz n was args z m++[args.getD m 0]:=by
 unfold Jz;rw[dN,mV,nD,aU h];rfl
theorem BC{was args:List Int}(h:¬was.getD m 0=J1 z n):Jz n was args z (m+1)=Jz n was args z m:=by
 unfold Jz;rw[dN,mV,nD,aM h];exact fF _
theorem zT(n:Nat)(a args:List Int)(z:Int)(m:Nat):(Jz n a args z m).length<=m:=by
 unfold Jz;exact aJ (mC _ _) sP
structure Iy(w0 wr:World)(d:Int)(va:Value)(acc:List Int):Prop where
 low:Below w0.heap.size w0 wr
 box:Bx wr w0.heap.size #[.int .i64 d,va] 106
 own:wr.ownsRow (w0.heap.size+1) 2 1 va acc.length (Xt acc)
theorem Iy.push{wr:World}{x:Int}{o:Obj}(h:Iy w wr t a l)(c:(wr.alloc o).grownBy v a.ownBlock)(i:v.ownsRow (w.heap.size+1) 2 1 A n (Xt l++[.int .i64 x]))(g:n=l.length+1) :
 Bx v w.heap.size #[.int .i64 t,a] 106/\Below w.heap.size w v/\Iy w (v.setCell ⟨w.heap.size,1,none⟩ A) t A (l++[x]):=by
 have f:=h.box.lt;have d:=(h.low.trans<|Below.alloc (Below.refl _ _) (dU f) o).trans (Xy (Below.refl _ _) c (h.own.alloc o) (gX _) (by simp;omega));have b:=(h.box.box o).grown c (λe=>by have:=(h.own.lt _ e.symm).1;omega);refine⟨b,d,d.setCell (aA _) _,?_,?_⟩
 .have:=b.set 1 A;simpa using this
 subst g;have e:Xt (l++[x])=Xt l++[Hp x]:=by simp[Xt]
 rw[e,aQ];exact ownsRow_setCell_below i (by show w.heap.size<_;omega) _
theorem Iy.drew{wr:World}(h:Iy w wr t a l):Iy w wr.drew t a l:=⟨h.low.drew,h.box,h.own⟩
structure T5 where
 m:Nat
 va:Value
 tl:List Value
theorem M8{Q:Exit->Act->World->Prop}(a:World)(W H n l G gc q np pc b r:Nat)(T P aa:Option Addr)(f ao D aj B ac:Nat)(d e args:List Int)(M:Int)(c0 c1 c2 c5 c6 ab:Value)(k:Nat)(hQ:Hs (∀c (J:Act) t v w,Q (.panic c) (J.put (some t) v) w->Q (.panic c) J w))(hw:Hs (Xf a W H T d))(bm:Hs (f=d.length))(cf:Hs (Xf a W H P e))(ce:Hs (D=e.length))(hB:H<=a.heap.size)(a4:a.cell? (Hk l 1)=some (Hl G n gc))(a8:l<a.heap.size)(a5:a.cell? (Hk G<|b*6)=some (Hl q np pc))(hG:G<a.heap.size)(a6:a.cell? (Hk q<|r*2+1)=some (.slice aa B ac))(a9:q<a.heap.size)(b3:Hs (Xf a W H aa args))(b1:Hs (B=args.length))(cv:b<n)(hn:n<=11)(cz:r<np)(db:f<=B)(dc:f<=1000)(hk:k<e.length)(hz:Hs (0<=e[k]/\e[k]<=1000))(i:List Int)(cs:i.length<=100000)
 (a2:∀(p bv:Value)(s:List Value)(j:World),s.length=134->Iy a j M p (i++Wy n d args e[k])->Q (.exit 8) ⟨(c0::c1::c2::Hp ((n:Nat):Int)::Hn l::c5::c6::Hp ((b:Nat):Int)::.slice T f ao::.slice P D aj::ab::Hp ((r:Nat):Int)::Hn a.heap.size::Hp ((k:Nat):Int)::bv::s).toArray,[]⟩ j)
 (p:Value) (s:List Value) (wr:World) (y:s.length=134) (x:Hs (Iy a wr M p i)) :
 Code.wp prog (Code.loop NA) Q ⟨(c0::c1::c2::Hp ((n:Nat):Int)::Hn l::c5::c6::Hp ((b:Nat):Int)::.slice T f ao::.slice P D aj::ab::Hp ((r:Nat):Int)::Hn a.heap.size::Hp ((k:Nat):Int)::Hp ((0:Nat):Int)::s).toArray,[]⟩ wr:=by
 have HX:=Xa a2;clear a2;let⟨j0,ca,cj,ck,cl⟩:=Xq Nv;refine iY (λL wr=>∃A:T5,L=⟨(c0::c1::c2::Hp ((n:Nat):Int)::Hn l::c5::c6::Hp ((b:Nat):Int)::.slice T f ao::.slice P D aj::ab::Hp ((r:Nat):Int)::Hn a.heap.size::Hp ((k:Nat):Int)::Hp ((A.m:Nat):Int)::A.tl).toArray,[]⟩/\A.tl.length=134/\A.m<=f/\Hs (Iy a wr M A.va<|i++Jz n d args e[k] A.m)) (λL _=>f-(intOf<|L.tmps.getD 14 undef).toNat) ⟨⟨0,p,s⟩,rfl,y,aN _,Xa<|by simpa [Jz]using x.o⟩ ?_;clear x y;rintro L wr⟨⟨m,p,s⟩,rfl,y,hm,u⟩;dsimp only at y hm u |-
 conv=>arg 2;whnf
 obtain⟨cr,rfl⟩:=Tj s y;simp only[ae,Nat.reduceAdd];clear y;by_cases cb:m<f
 .have cc:(m:Int)<f:=oM;have bd:m<d.length:=by rw[<-bm.o];exact cb
  have bb:m<args.length:=oN b1.o;let⟨Z,ow,b0,cx,a1⟩:=hw m bd;let⟨bn,bp,bz,cw,b7⟩:=cf k hk;let⟨C,S,bx,ct,a0⟩:=b3 m bb;subst b0 bz bx;have kc:∀X,Below a.heap.size a X->∀E R,E<a.heap.size->X.cell? (Hk E R)=a.cell? (Hk E R):=λX hW E R hq=>hW.cell (p:=Hk E R) hq;have g:=Xa kc;clear kc;have x1:=(g _ u.low Z (ow+m) oM).trans a1;have x2:=(g _ u.low bn (bp+k) oM).trans b7;have V:Hs (d.getD m 0=d[m]/\args.getD m 0=args[m]):=Xa ⟨by simp[bd],by simp[bb]⟩;have c7:k<D:=oN ce.o;have c8:m<B:=oM;have az:=Xa λ(x:d.getD m 0=J1 e[k] n)=>zp (n:=n) (was:=d) (args:=args) (z:=e[k]) (m:=m) x;have ay:=Xa λ(x:¬d.getD m 0=J1 e[k] n)=>BC (n:=n) (was:=d) (args:=args) (z:=e[k]) (m:=m) x;have bt:=Xa<|zT n d args e[k] m;rw[V.1,V.2]at az;rw[V.1]at ay;have cm:=hz.1;have dd:=hz.2;generalize e[k]=z at*;generalize d[m]=F at*;generalize b5:args[m]=Y at*;clear b5;go_wp2_with fail
  refine Y7 (λj=>j.cell? (Hk Z<|ow+m)=some (Hp F)/\j.cell? (Hk bn<|bp+k)=some (Hp z)) λhHeld=>?_;refine X0 0 ?_;refine X0 1 ?_;refine X0 2 ?_;refine X0 3 ?_;refine X0 4 ?_;refine X0 5 ?_;refine X0 6 ?_;refine X0 7 ?_;refine X0 8 ?_;refine Xs 9 λK hK=>?_;go_simp
  go_at_call 110
  refine(ZY z n _ cm oM oM).mono ?_;rintro N w1⟨rfl,ci⟩;subst ci;refine hK _ _ ⟨x1,x2⟩ λhHeld=>?_;clear hK;refine X0 10 ?_;refine Yq ?_;clear hHeld;have h:=Xa u.drew;generalize bl:wr.drew=wd at*;have cp:=Xa bl;clear u bl;have x1:=(g _ h.low Z (ow+m) oM).trans a1;by_cases o:F=J1 z n
  .have cg:(F==J1 z n)=true:=by simpa using o
   have U:=Xa<|az.o o;clear o;have y1:=(g _ h.low l 1 a8).trans a4;have y2:=(g _ h.low G (b*6) hG).trans a5;have y3:=(g _ h.low q (r*2+1) a9).trans a6;have y4:=(g _ h.low C (S+m) oM).trans a0;let⟨ua,uc,ul,ch,bi⟩:∃J c bo,p=.slice J bo c/\bo=(i++Jz n d args z m).length:=by
    rcases h.own.2 with⟨N,h0⟩|⟨_,_,_,N,_⟩;·exact⟨none,0,0,N,h0.symm⟩
    exact⟨_,_,_,N,rfl⟩
   subst ch;have co:=Xa bi;clear bi;have c9:=Bx.c h.box 1;have da:=h.box.lt;have I:Hs (l≠a.heap.size/\G≠a.heap.size/\q≠a.heap.size/\C≠a.heap.size):=Xa oM;have aq:Hs ((i++Jz n d args z m).length<=200000):=Xa (by rw[aQ];have:=bt.o;omega);have ar:=Xa h.drew;have br:Hs ((i++Jz n d args z m)++[Y]=i++Jz n d args z (m+1)):=Xa (by rw[U.o,cK]);generalize i++Jz n d args z m=ap at*;go_wp2_with fail
   refine Y7 (λj=>j.cell? (Hk l 1)=some (Hl G n gc)/\j.cell? (Hk G<|b*6)=some (Hl q np pc)/\j.cell? (Hk q<|r*2+1)=some (Hm C S B ac)/\j.cell? (Hk C<|S+m)=some (Hp Y)) λhHeld=>?_;refine X0 0 ?_;refine X0 2 ?_;refine X0 3 ?_;refine X0 4 ?_;refine X0 5 ?_;refine X0 6 ?_;refine X0 7 ?_;refine X0 8 ?_;refine X0 9 ?_;refine X0 10 ?_;refine X0 11 ?_;refine X0 12 ?_;refine X0 13 ?_;refine X0 14 ?_;refine eS (rs:=[1,15]) kR sP ?_;refine(bQ rfl (λK hK=>?_) (bQ rfl (λK hK=>?_) dY))
   focus
    go_simp;refine hK _ _ kP λhHeld=>?_;clear hK
    try simp only[xX]
    refine Xs 15 λK hK=>?_;go_simp;refine hK _ _ kP λhHeld=>?_;clear hK
   rotate_left
   focus
    go_simp;refine hK _ _ kP λhHeld=>?_;clear hK
    try simp only[xX]
    refine Xs 1 λK hK=>?_;go_simp;refine hK _ _ kP λhHeld=>?_;clear hK
   all_goals (
    refine Xs 16 λK hK=>?_;refine dm rfl _ _ 27 rfl (a.heap.size+1) 2 j0 (Hp 0) 1 8 underlying27 ca cj ck cl rfl vZ (.slice ua ul uc) ap.length (Xt ap) rfl ?s1 (Hk wd.heap.size 0) 1 1 [Hp Y] rfl rfl ?s2 ?s3 ?s4 ?s5 ?s6 ?_
    case s1=>exact ar.own.alloc _
    case s2=>exact Yf wd.drew _ _
    case s3=>intro F o;simp at o;subst o;rfl
    case s4=>unfold maxLen;have:=aq.o;omega
    case s5=>have:=aq.o;omega
    case s6=>simp;omega
    intro v8 w8 af a7 cd b4;let⟨ad,O,bf⟩:=ar.push a7 af rfl;have z1:=(g _ O l 1 a8).trans a4;have z2:=(g _ O G (b*6) hG).trans a5;have z3:=(g _ O q (r*2+1) a9).trans a6;have z4:=(g _ O C (S+m) oM).trans a0;obtain⟨g8,cq,rfl,b8,b6⟩:=Xm af oM;have k1:=Bx.c ad 1;have kz:=Bx.thaw ad;have bq:=Xa bf;clear b8 b6 cd b4 af a7 bf ad;refine hK _ _ ⟨z1,z2,z3,z4⟩ λhHeld=>?_;clear hK;refine X0 17 ?_;refine Xs 18 λK hK=>?_;go_simp;refine hK _ _ ⟨(Xc<|Below.heap_setCell _ _ _ _ I.1).trans z1,(Xc<|Below.heap_setCell _ _ _ _ I.2.1).trans z2,(Xc<|Below.heap_setCell _ _ _ _ I.2.2.1).trans z3,(Xc<|Below.heap_setCell _ _ _ _ I.2.2.2).trans z4⟩ λhHeld=>?_;clear hK;refine Yq ?_;clear hHeld z1 z2 z3 z4 k1 kz;go_wp2_with fail
    have a3:=bq.o;rw[br.o]at a3;exact⟨⟨⟨m+1,_,_⟩,rfl,rfl,(by show m+1<=f;omega),Xa a3⟩,by simp[intOf];omega⟩)
  have cg:(F==J1 z n)=false:=by simpa using o
  have U:=Xa<|ay.o o;clear o;go_wp2_with fail
  refine⟨⟨⟨m+1,p,_⟩,rfl,rfl,(by show m+1<=f;omega),Xa ?_⟩,by simp[intOf];omega⟩;rw[U.o];exact h
 have cc:¬(m:Int)<f:=oM;have bc:m=d.length:=by rw[<-bm.o];omega
 have HF:Hs (Iy a wr M p<|i++Wy n d args e[k]):=Xa (by
  have:=u.o;rw[bc,za]at this;exact this)
 clear bc;go_wp2_with fail
 exact HX p _ _ _ (by rfl) HF
structure T4 where
 k:Nat
 va:Value
 c14:Value
 tl:List Value
theorem Cd{was args:List Int}(a:m<l.length):JH n was (l.take<|m+1) args=JH n was (l.take m) args++Wy n was args l[m]:=by
 unfold JH;rw[bN a,eZ];simp
theorem NG{Q:Exit->Act->World->Prop}(a:World)(L B n m G S w M V b o:Nat)(r q F:Option Addr)(j D d A v R:Nat)(f e args:List Int)(p:Int)(c0 c1 c2 c5 I H:Value)(hQ:Hs (∀c (t:Act) N O C,Q (.panic c) (t.put (some N) O) C->Q (.panic c) t C))(hw:Hs (Xf a L B r f))(U:Hs (j=f.length))(a3:Hs (Xf a L B q e))(z:Hs (d=e.length))(hB:B<=a.heap.size)(aq:a.cell? (Hk m 1)=some (Hl G n S))(ay:m<a.heap.size)(ar:a.cell? (Hk G<|b*6)=some (Hl w M V))(hG:G<a.heap.size)(ax:a.cell? (Hk w<|o*2+1)=some (.slice F v R))(az:w<a.heap.size)(ao:Hs (Xf a L B F args))(aj:Hs (v=args.length))(ap:b<n)(hn:n<=11)(a0:o<M)(a4:j<=v)(a5:j<=1000)(hz:Hs (∀W∈e,0<=W/\W<=1000))(a7:d<=11/\j<=11)
 (T:∀(i ad l:Value)(g:List Value)(P:World),g.length=134->Iy a P p i (JH n f e args)->Q (.exit 6) ⟨(c0::c1::c2::Hp ((n:Nat):Int)::Hn m::c5::I::Hp ((b:Nat):Int)::.slice r j D::.slice q d A::H::Hp ((o:Nat):Int)::Hn a.heap.size::ad::l::g).toArray,[]⟩ P)
 (i l:Value) (g:List Value) (wr:World) (h:g.length=134) (y:Hs (Iy a wr p i [])) :
 Code.wp prog (Code.loop Mm) Q ⟨(c0::c1::c2::Hp ((n:Nat):Int)::Hn m::c5::I::Hp ((b:Nat):Int)::.slice r j D::.slice q d A::H::Hp ((o:Nat):Int)::Hn a.heap.size::Hp ((0:Nat):Int)::l::g).toArray,[]⟩ wr:=by
 have HX:=Xa T;refine iY (λu wr=>∃x:T4,u=⟨(c0::c1::c2::Hp ((n:Nat):Int)::Hn m::c5::I::Hp ((b:Nat):Int)::.slice r j D::.slice q d A::H::Hp ((o:Nat):Int)::Hn a.heap.size::Hp ((x.k:Nat):Int)::x.c14::x.tl).toArray,[]⟩/\x.tl.length=134/\x.k<=d/\Hs (Iy a wr p x.va<|JH n f (e.take x.k) args)) (λu _=>d-(intOf<|u.tmps.getD 13 undef).toNat) ⟨⟨0,i,l,g⟩,rfl,h,aN _,y⟩ ?_;rintro u wr⟨⟨k,i,l,g⟩,rfl,h,hk,s⟩;dsimp only at h hk s |-
 conv=>arg 2;whnf
 obtain⟨af,rfl⟩:=Tj g h;simp only[ae,Nat.reduceAdd];by_cases a1:k<d
 .have a2:(k:Int)<d:=oM;have K:k<e.length:=by rw[<-z.o];exact a1
  have Y:=Xa<|qx n f (e.take k) args;have Z:=Xa<|Cd (n:=n) (was:=f) (args:=args) K;have ab:=Xa<|hz.o _ (aH K);have X:Hs ((JH n f (e.take k) args).length<=100000):=Xa (by
   have h1:=Y.o;have h2:(e.take k).length*f.length<=11*11:=lO (by rw[dH];have:=z.o;omega) (oN U.o);omega)
  go_wp2_with fail
  refine M8 a L B n m G S w M V b o r q F j D d A v R f e args p _ _ _ _ _ _ k (by exact Xa λc t N O C y=>hQ c t N O C y) hw U a3 z hB aq ay ar hG ax az ao aj ap hn a0 a4 a5 K ab (JH n f (e.take k) args) X ?_ i _ _ (by rfl) s;intro a6 l g P h J;obtain⟨af,rfl⟩:=Tj g h;simp only[ae,Nat.reduceAdd];rw[<-Z.o]at J;have E:=Xa J;go_wp2;exact⟨⟨⟨k+1,a6,_,_⟩,rfl,rfl,(by show k+1<=d;omega),E⟩,by simp[intOf];omega⟩
 have a2:¬(k:Int)<d:=oM
 have E:Hs (Iy a wr p i<|JH n f e args):=Xa (by
  have:=s.o;rw[aW<|oN z.o]at this;exact this)
 go_wp2_with fail
 exact HX i _ _ _ _ (by rfl) E
structure It(w1 wr:World)(lab:Nat->Nat×Nat×Nat)(b:Nat)(vp:Value)(ps:List Ph)(av:Nat->Value):Prop where
 low:Below w1.heap.size w1 wr
 row:Xv wr lab (2,b,0) w1.heap.size 106 2 vp ps.length (Yh av ps)
 args:∀j (h:j<ps.length),Xv wr lab (4,b,j) w1.heap.size 2 1 (av j) ps[j].args.length (Xt ps[j].args)
 fr:∀q,wr.heap.size<=q->lab q=(0,0,0)
theorem It.push{wr:World}{b:Nat}{f:Value}{c:List Ph}{av:Nat->Value}{o:Obj}(h:It w wr Z b a c av)(d:Iy wr v t f l)(p:(v.alloc o).grownBy u a.ownBlock)(D:u.ownsRow w.heap.size 106 2 A n (Yh av c++[.int .i64 t,f]))(C:n=c.length+1)(x:A.ownBlock=a.ownBlock\/A.ownBlock=some (v.alloc o).heap.size) :
 ∃i,It w u i b A (c++[⟨t,l⟩]) (λj=>if j=c.length then f else av j):=by
 have s:=h.low.size;have g:XW wr (v.alloc o) Z (λq=>if f.ownBlock=some q then (4,b,c.length)else Z q) w.heap.size (λ_=>True):=by
  refine⟨aJ d.low.size sP,λq _ m _=>⟨?_,aM λe=>?_⟩,λy q hq=>?_⟩;·exact(Below.heap_alloc _ _ _<|aX m d.low.size).trans (d.low.block q m)
  .have:=(d.own.lt q e).1;omega
  have J:=d.low.size;rw[aO]at hq;exact(aM λe=>by have:=(d.own.lt q e).2;omega).trans (y q oM)
 have r:=h.row.sp g λ_ _=>trivial;have F:Xv (v.alloc o) (λq=>if f.ownBlock=some q then (4,b,c.length)else Z q) (4,b,c.length) w.heap.size 2 1 f l.length (Xt l):=⟨Zk (d.own.alloc o) oM,λq e=>aU e⟩;let⟨i,E,k⟩:=r.grow p D x<|g.fresh h.fr;have G:=g.trans k;refine⟨i,?_,?_,λj z=>?_,G.fresh h.fr⟩;·refine(h.low.trans<|d.low.mono s).trans ((Below.alloc (Below.refl _ _) (aJ s d.low.size) o).trans (r.below p (aA _) (by simp;have:=d.low.size;omega)))
 .subst C
  have e:Yh (λj=>if j=c.length then f else av j) (c++[⟨t,l⟩])=Yh av c++[Hp t,f]:=by
   unfold Yh;rw[Zo,aV];dsimp only;rw[aU rfl,ZF (f':=λj (H:Ph)=>[Hp H.dst,av j]) 0 c λK I=>by rw[aV,aM oM]]
  rw[e,aQ];exact E
 by_cases e:j<c.length
 .rw[fA e,aM oM];refine((h.args j e).sp g λ_ _=>trivial).sp k λq e2=>?_;rw[e2];simp
 have B:j=c.length:=by simp at z;omega
 subst B;rw[fN<|aA _,aU rfl];simp only[kL,eM];exact F.sp k λq e2=>by rw[e2];simp
structure T3 where
 j:Nat
 vp:Value
 c12:Value
 c13:Value
 c14:Value
 tl:List Value
theorem NK{Q:Exit->Act->World->Prop}(d:World)(L B n p G gc q h pc b:Nat)(E C:Option Addr)(r R w O:Nat)(f e:List Int)(a:List Ph)(c0 c1 c2 c5 V:Value)(hQ:Hs (∀c (g:Act) Z ab P,Q (.panic c) (g.put (some Z) ab) P->Q (.panic c) g P))(hw:Hs (Xf d L B E f))(az:Hs (r=f.length))(bo:Hs (Xf d L B C e))(bn:Hs (w=e.length))(W:B<=d.heap.size)(ba:d.cell? (Hk p 1)=some (Hl G n gc))(bc:p<d.heap.size)(bb:d.cell? (Hk G<|b*6)=some (Hl q h pc))(hG:G<d.heap.size)(aq:q<d.heap.size)(ay:Hs (h=a.length))(bp:Hs (∀j (z:j<a.length),d.cell? (Hk q<|j*2)=some (Hp a[j].dst)/\∃K U,d.cell? (Hk q<|j*2+1)=some (.slice K a[j].args.length U)/\Xf d L B K a[j].args/\f.length<=a[j].args.length))(a8:b<n)(hn:n<=11)(hz:Hs (∀a1∈e,0<=a1/\a1<=1000))(bi:w<=11/\r<=11)(b4:h<=1000)
 (ao:∀(m a6 y t u:Value)(A:Nat->Nat×Nat×Nat)(av:Nat->Value)(i:List Value)(w':World),i.length=134->It d w' A b m (YD n f e a) av->Q (.exit 4) ⟨(c0::c1::c2::Hp ((n:Nat):Int)::Hn p::c5::V::Hp ((b:Nat):Int)::.slice E r R::.slice C w O::m::a6::y::t::u::i).toArray,[]⟩ w')
 (m y t u:Value) (a0:Nat->Nat×Nat×Nat) (af:Nat->Value) (i:List Value) (wr:World) (l:i.length=134) (z:Hs (It d wr a0 b m [] af)) :
 Code.wp prog (Code.loop Ma) Q ⟨(c0::c1::c2::Hp ((n:Nat):Int)::Hn p::c5::V::Hp ((b:Nat):Int)::.slice E r R::.slice C w O::m::Hp ((0:Nat):Int)::y::t::u::i).toArray,[]⟩ wr:=by
 have HX:=Xa ao;clear ao;let⟨i0,bf,bv,bw,bx⟩:=Xq Nr;refine iY (λJ wr=>∃x:T3,J=⟨(c0::c1::c2::Hp ((n:Nat):Int)::Hn p::c5::V::Hp ((b:Nat):Int)::.slice E r R::.slice C w O::x.vp::Hp ((x.j:Nat):Int)::x.c12::x.c13::x.c14::x.tl).toArray,[]⟩/\x.tl.length=134/\x.j<=h/\Hs (∃A av,It d wr A b x.vp (YD n f e<|a.take x.j) av)) (λJ _=>h-(intOf<|J.tmps.getD 11 undef).toNat) ⟨⟨0,m,y,t,u,i⟩,rfl,l,aN _,Xa ⟨a0,af,z⟩⟩ ?_;clear z l;rintro J wr⟨⟨j,m,y,t,u,i⟩,rfl,l,hj,F⟩;dsimp only at l hj F |-
 conv=>arg 2;whnf
 obtain⟨a7,rfl⟩:=Tj i l;simp only[ae,Nat.reduceAdd];clear l;let⟨A,av,k⟩:=F.o;have I:=Xa λD b0 (hq:D<d.heap.size)=>k.low.cell (p:=Hk D b0) hq;have b6:=k.low.size;have x1:=(I p 1 bc).trans ba;have x2:=(I G (b*6) hG).trans bb;by_cases ax:j<h
 .have bl:(j:Int)<h:=oM;have ar:j<a.length:=by rw[<-ay.o];exact ax
  let⟨p0,K,U,p1,p2,p3⟩:=bp j ar;have x3:=(I q (j*2) aq).trans p0;have x4:=(I q (j*2+1) aq).trans p1;have a3:Hs (YD n f e (a.take<|j+1)=YD n f e (a.take j)++[⟨a[j].dst,JH n f e a[j].args⟩]):=Xa (by
   unfold YD;rw[bN ar,bG];rfl)
  have T:Hs ((YD n f e<|a.take j).length=j):=Xa (by unfold YD;rw[bK,dH];omega);have a5:=Xa<|p2.keep (B:=B) (k.low.mono W);have HW:=Xa<|hw.keep (B:=B) (k.low.mono W);have HN:=Xa<|bo.keep (B:=B) (k.low.mono W);have H:=Xa k;let⟨M,X⟩:∃M,M=a[j].args.length:=⟨_,rfl⟩;rw[<-X]at x4 p3;have a2:=Xa X;have bt:r<=M:=oN az.o;clear X k F p0 p1 p2;generalize a[j].dst=N at*;generalize a[j].args=args at*;go_wp2_with fail
  have ad:Hs (Iy wr (wr.alloc<|.cells #[Hp N,Hq] 106) N Hq []):=Xa ⟨Xb (Below.refl _ _) _,Bx.new _ _ _,dA _ _ _ _⟩;refine NG wr L B n p G gc q h pc b j E C K r R w O M U f e args N _ _ _ _ _ _ (by exact Xa λc g Z ab P z=>hQ c g Z ab P z) HW az HN bn oM x1 oM x2 oM x4 oM a5 a2 a8 hn ax bt oM hz bi ?_ _ _ _ _ (by rfl) ad;intro b1 t u i w2 l v;obtain⟨a7,rfl⟩:=Tj i l;simp only[ae,Nat.reduceAdd];clear l ad;have s:=Xa v;clear v x1 x2 x3 x4;let⟨ua,ul,uc,bq⟩:∃g bz c,b1=.slice g bz c:=by
   rcases s.own.2 with⟨o,h0⟩|⟨_,_,_,o,_⟩;·exact⟨none,0,0,o⟩
   exact⟨_,_,_,o⟩
  subst bq;let⟨qa,qc,br⟩:∃g c,m=.slice g j c:=by
   let⟨g,c,o⟩:=H.row.form;rw[T.o]at o;exact⟨g,c,o⟩
  subst br;have q0:=Bx.c s.box 0;have q1:=Bx.c s.box 1;have b5:=s.low.size;have a4:Hs (w2.ownsRow d.heap.size 106 2 (.slice qa j qc) j (Yh av<|YD n f e (a.take j))):=Xa (by
   have:=Zl H.row.own (w':=w2) λD o=>s.low.block D (H.row.own.lt D o).2;rw[T.o]at this;exact this)
  go_wp2_with (at_builtin;refine bT _ rfl _ _ 44 rfl d.heap.size 106 i0 (.agg #[Hp 0,Hq]) 2 32 underlying44 bf bv bw bx rfl vZ _ j (Yh av<|YD n f e (a.take j)) rfl (a4.alloc _) (Hk w2.heap.size 0) 1 1 [Hp N,.slice ua ul uc] rfl rfl (World.news_of_block<|World.alloc_heap_new _ _) ?c2 ?c3 ?c4 ?c5 ?_)
  case c2=>intro b8 hu;simp at hu;rcases hu with rfl|rfl<;>rfl
  case c3=>unfold maxLen;omega
  case c4=>omega
  case c5=>simp;omega
  intro v8 w8 Y ap bm aj;let⟨b7,v⟩:=H.push s ap Y (by rw[T.o]) (by rw[aO];exact aj);rw[<-a3.o]at v;have S:=Xa v;obtain⟨g8,b3,rfl,bd,a9⟩:=Xm Y oM;clear bd a9 bm aj Y ap v q0 q1;go_wp2;exact⟨⟨⟨j+1,_,_,_,_,_⟩,rfl,rfl,(by show j+1<=h;omega),Xa ⟨_,_,S⟩⟩,by simp[intOf];omega⟩
 have bl:¬(j:Int)<h:=oM
 have S:Hs (It d wr A b m (YD n f e a) av):=Xa (by
  have:=k;rw[aW<|oN ay.o]at this;exact this)
 clear k F;go_wp2_with fail
 exact HX _ _ _ _ _ _ _ _ _ (by rfl) S
def gw(k:Int)(V:Nat)(s:Sr)(x:Yg):Yg :=
 if k=11 then ⟨(Ax s 13).1,x.dst,x.a,x.b,x.imm⟩else if k=12 then ⟨x.op,(Ax s<|(V:Int)+1).1,x.a,x.b,x.imm⟩else if k=13 then ⟨x.op,x.dst,(V:Int),x.b,x.imm⟩else if k=14 then ⟨x.op,x.dst,x.a,-1,x.imm⟩else ⟨x.op,x.dst,x.a,x.b,(Ax s 12).1⟩
def jb(k:Int)(V:Nat)(s:Sr)(a:List Int):List Int :=
 if k=8 then a++[0]else if k=9 then a.set 0 ((V:Int)*(Ax s 2).1)else a.drop 1
def UL(k:Int)(V n:Nat)(s:Sr)(t:Yj):Yj :=
 if k=1 then ⟨t.kind,t.a,n,t.els⟩else if k=2 then ⟨t.kind,t.a,t.to,t.to⟩else if k=3 then ⟨t.kind,t.a,0,t.els⟩else if k=4 then ⟨(Ax s 5).1,t.a,t.to,t.els⟩else if k=5 then ⟨t.kind,(V:Int),t.to,t.els⟩else t
def Za(k:Int)(V n:Nat)(s:Sr)(x:Xe):Xe :=
 if k=6 then ⟨x.ps++[⟨0,[]⟩],x.is,x.te⟩
 else if k<6 then ⟨x.ps,x.is,UL k V n s x.te⟩
 else if k<11 then (if 0<x.ps.length then ⟨x.ps.set 0 ⟨(x.ps.getD 0 Wo).dst,jb k V s (x.ps.getD 0 Wo).args⟩,x.is,x.te⟩else x)
 else (if 0<x.is.length then ⟨x.ps,x.is.set (Ax s x.is.length).1.toNat (gw k V (Ax s x.is.length).2 (x.is.getD (Ax s x.is.length).1.toNat ⟨0,0,0,0,0⟩)),x.te⟩else x)
def XN(V:Nat)(a:List Xe)(s:Sr):Fn :=
 if (Ax s 16).1=7 then ⟨V,[]⟩else
 ⟨if (Ax s 16).1=0 then (V:Int)+(Ax (Ax (Ax s 16).2 a.length).2 2).1*2-1 else V,a.set (Ax (Ax s 16).2 a.length).1.toNat (Za (Ax s 16).1 V a.length (Ax (Ax s 16).2 a.length).2 (a.getD (Ax (Ax s 16).2 a.length).1.toNat XV))⟩
def Ly(F:Fn)(w:World)(b d:Nat)(e:Ending)(f:World):Prop:=∃a m c,e=.returned (.agg #[.int .i64 F.values,.slice a m c])/\m=F.blocks.length/\KC w f b d a F.blocks
def cA:Code->Code
 |.seq a _=>a
 |.block _ c=>c
 |.loop c=>c
 |c=>c
def cB:Code->Code
 |.seq _ b=>b
 |c=>c
noncomputable def EX:Code:=(f30.body.getD .skip)
noncomputable def ux:Code:=cB<|cB (cB<|cB (cB EX))
noncomputable def uh:Code:=cB<|cB (cB<|cB (cB<|cB (cB<|cB ux)))
noncomputable def t7:Code:=cB uh
noncomputable def Et:Code:=cB t7
theorem JR(a:List Value)(h:a.length=169):∃f:Nat->Value,a=ae f 10 169:=eo 10 169 a h
theorem t8(V G n c:Nat)(j:List Xe)(z:Nat)(W D:Nat->Value)(av:Nat->Nat->Value)(t E:Nat)(w:World)(F:Fn)(b x:Nat)(g:Option Addr)(i h:Nat)(o:Option Addr)(m p:Nat)(U:Nat->Nat×Nat×Nat)(Z:Sr)(f:Int)(d:Xe)(J:Nat->Value)(c3 K:Value)(u:List Value)(B:u.length=169)(e:World)(C:Hs (n=j.length))(A:b<j.length)(y:Hs (D b=.slice g i h))(I:Hs (F=⟨f,j.set b d⟩))(c5:Value)(a:Hs (Z4 w e U z t E Z f G n c j W D av b x (.slice o m p) d J)) :
 Code.wp prog Et (bodyPost prog f30 λL w'=>Ly F w z t L w') ⟨(.agg #[Hp V,Hl G n c]::Hn t::Hn w.heap.size::c3::Hn (w.heap.size+1)::c5::Hp ((b:Nat):Int)::Hp ((n:Nat):Int)::Hn x::K::u).toArray,[]⟩ e:=by
 obtain⟨aa,rfl⟩:=JR u B;simp only[ae,Nat.reduceAdd]
 conv=>arg 2;whnf
 have ab:b<n:=oN C.o;have M:=Bx.c a.box 1;have c0:=Bx.c a.xbx 0;have c1:e.cell? (Hk x 1)=some (.slice g i h):=by rw[<-y.o];exact Bx.cell a.xbx rfl
 have c2:=Bx.c a.xbx 2;have c3:=Bx.c a.xbx 3;have c4:=Bx.c a.xbx 4;have c5:=Bx.c a.xbx 5;let⟨⟨v0,N⟩,⟨v1,O⟩,⟨v2,P⟩,⟨v3,Q⟩,⟨v4,R⟩,⟨v5,S⟩,T⟩:=a.gcells A;have ac:=a.gxb;have l:=λu0 u1=>a.done (u0:=u0) (u1:=u1) A;rw[y.o]at l;have H:=Xa l;have k:Hs (Bx ((((((e.setCell (Hk G<|b*6) (.slice o m p)).setCell (Hk G<|b*6+1) (.slice g i h)).setCell (Hk G<|b*6+2) (Hp d.te.kind)).setCell (Hk G<|b*6+3) (Hp d.te.a)).setCell (Hk G<|b*6+4) (Hp d.te.to)).setCell (Hk G<|b*6+5) (Hp d.te.els)) w.heap.size #[Hp f,Hl G n c] 25/\Bx ((((((e.setCell (Hk G<|b*6) (.slice o m p)).setCell (Hk G<|b*6+1) (.slice g i h)).setCell (Hk G<|b*6+2) (Hp d.te.kind)).setCell (Hk G<|b*6+3) (Hp d.te.a)).setCell (Hk G<|b*6+4) (Hp d.te.to)).setCell (Hk G<|b*6+5) (Hp d.te.els)) (w.heap.size+1) #[Hp 0,Hq] 25):=Xa ⟨(((((a.box.other a.gbox).other a.gbox).other a.gbox).other a.gbox).other a.gbox).other a.gbox,(((((a.res.other a.gres).other a.gres).other a.gres).other a.gres).other a.gres).other a.gres⟩
 go_upto_region 42 with fail
 have r:=λq v hq=>Bx.cell (q:=q) (u:=v) k.1 hq;have f0:=r 0 (Hp f) rfl;have f1:=r 1 (Hl G n c) rfl;have s:=λq v hq=>Bx.cell (q:=q) (u:=v) k.2 hq;have X:=s 0 (Hp 0) rfl;have Y:=s 1 Hq rfl;have rz:=Bx.thaw k.2;generalize (((((e.setCell _ _).setCell _ _).setCell _ _).setCell _ _).setCell _ _).setCell _ _=w6 at*;go_wp2;rw[I.o];exact cC (v:=.agg #[Hp f,Hl G n c]) (by simp[results,results30,go_sem,X,Y]) rfl ⟨_,n,c,rfl,by rw[bL];exact C,H _ _⟩
theorem ki(V G n c:Nat)(f:List Xe)(i:Nat)(v j:Nat->Value)(av:Nat->Nat->Value)(e B:Nat)(w:World)(F:Fn)(b g:Nat)(p:Option Addr)(a q:Nat)(t:Option Addr)(s u:Nat)(r:Nat->Nat×Nat×Nat)(H:Sr)(k:Int)(m:Xe)(o:Nat->Value)(c3 M:Value)(y:List Value)(E:y.length=169)(l:World)(O:Hs (n=f.length))(N:b<f.length)(z:Hs (j b=.slice p a q))(I:Hs (F=⟨k,f.set b m⟩))(d:Int)(aa:a<=1000)(hr:d<11)(h:Hs (Z4 w l r i e B H k G n c f v j av b g (.slice t s u) m o)) :
 Code.wp prog t7 (bodyPost prog f30 λA Q=>Ly F w i e A Q) ⟨(.agg #[Hp V,Hl G n c]::Hn e::Hn w.heap.size::c3::Hn (w.heap.size+1)::Hp d::Hp ((b:Nat):Int)::Hp ((n:Nat):Int)::Hn g::M::y).toArray,[]⟩ l:=by
 obtain⟨Y,rfl⟩:=JR y E;simp only[ae,Nat.reduceAdd]
 conv=>arg 2;whnf
 have S:(d==11)=false:=by simp;omega
 have T:(d==12)=false:=by simp;omega
 have U:(d==13)=false:=by simp;omega
 have W:(d==14)=false:=by simp;omega
 have X:(d==15)=false:=by simp;omega
 have z1:l.cell? (Hk g 1)=some (.slice p a q):=by rw[<-z.o];exact Bx.cell h.xbx rfl
 go_upto_if 121 with fail
 go_cut []from 10 to 180 λR=>∃x,Hs<|Z4 w R r i e B x k G n c f v j av b g (.slice t s u) m o
 case first=>
  by_cases Z:0<a
  .have P:(0:Int)<a:=oM;go_wp2_with fail
   refine(XC e B H (a:Int) l (Xa h.dr) oM oM).mono ?_;rintro A w5⟨rfl,C,D⟩;have J:=Xa<|h.call D C;go_wp2;go_meet;exact⟨_,J⟩
  have P:¬(0:Int)<a:=oM;go_wp2;go_meet;exact⟨_,h⟩
 let⟨x,K⟩:=hcut;rename_i L;exact L _ _<|t8 V G n c f i v j av e B w F b g p a q t s u r x k m o _ _ _ rfl wc O N z I _ K
theorem gn(V G n c:Nat)(e:List Xe)(h:Nat)(z j:Nat->Value)(av:Nat->Nat->Value)(f B:Nat)(w:World)(F:Fn)(b o:Nat)(t:Option Addr)(k u:Nat)(x:Option Addr)(d y:Nat)(v:Nat->Nat×Nat×Nat)(A:Sr)(m:Int)(p:Xe)(r:Nat->Value)(c3 H:Value)(l:List Value)(s:l.length=169)(g:World)(J:Hs (n=e.length))(I:b<e.length)(C:Hs (j b=.slice t k u))(D:Hs (F=⟨m,e.set b p⟩))(a:Int)(K:k<=1000)(T:a<8)(q:Hs (Z4 w g v h f B A m G n c e z j av b o (.slice x d y) p r)) :
 Code.wp prog uh (bodyPost prog f30 λi M=>Ly F w h f i M) ⟨(.agg #[Hp V,Hl G n c]::Hn f::Hn w.heap.size::c3::Hn (w.heap.size+1)::Hp a::Hp ((b:Nat):Int)::Hp ((n:Nat):Int)::Hn o::H::l).toArray,[]⟩ g:=by
 obtain⟨R,rfl⟩:=JR l s;simp only[ae,Nat.reduceAdd]
 conv=>arg 2;whnf
 have P:(a==8)=false:=by simp;omega
 have Q:(a==9)=false:=by simp;omega
 have O:(a==10)=false:=by simp;omega
 have U:=Bx.c q.xbx 0
 go_upto_if 79 with fail
 go_cut []from 10 to 180 λN=>Hs<|dy N g
 case first=>
  by_cases S:0<d
  .have L:(0:Int)<d:=oM;go_wp2;go_meet;exact Xa rfl
  have L:¬(0:Int)<d:=oM;go_wp2;go_meet;exact Xa rfl
 have i:wc=g:=hcut.o;subst i;rename_i E;exact E _ _<|ki V G n c e h z j av f B w F b o t k u x d y v A m p r _ _ _ rfl wc J I C D a K oM q
end Go.Proofs.YtffcajcgkblkoaaGreatDoor
