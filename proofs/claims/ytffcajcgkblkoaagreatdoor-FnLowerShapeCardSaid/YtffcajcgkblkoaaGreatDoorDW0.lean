import Derived.Test.YtffcajcgkblkoaaGreatDoorDT2
namespace Go.Proofs.YtffcajcgkblkoaaGreatDoor
set_option maxHeartbeats 4000000
set_option maxRecDepth 100000
open Go.RowKit Go.Proofs.Tryz
variable{x:List Xe}{n g:Nat}{w:World}{q:Xe}
def UD(x:Xe):Prop:=x.ps.length<=4/\(∀p∈x.ps,p.args.length<=1001)/\x.is.length<=1000
theorem rA:∀(a:List Ph)(m:Nat),(∀p∈a,p.args.length<=m)->JG a<=a.length*m
 |[],m,_=>by simp[JG]
 |p::a,m,h=>by
  have c:=h p sP;have b:=rA a m (λq hq=>h q<|by simp[hq]);unfold JG at b |-;rw[eH,kX,bA,jK,jL];omega
theorem UD.le(h:UD q):ZZ q<=6000:=by
 have a:=rA q.ps 1001 h.2.1;have b:=jI 1001 h.1;have c:=h.2.2;have d:=h.1;unfold ZZ;omega
theorem pP:∀(a:List Xe),(∀x∈a,UD x)->Xx a<=a.length*6000
 |[],_=>by simp[Xx]
 |x::a,h=>by
  have c:=(h x sP).le;have b:=pP a (λq hq=>h q<|by simp[hq]);unfold Xx at b |-;rw[eH,kX,bA,jK,jL];omega
theorem j5(b:x.length<=12)(h:∀a∈x,UD a):x.length+Xx x<=1048576:=by
 have:=pP x h;omega
def IU(a:List Xe):Prop:=∀x∈a,x.ps.length<=3
theorem IU.get(h:IU x)(i:Nat):(x.getD i XV).ps.length<=3:=by
 by_cases a:i<x.length
 .rw[show x.getD i XV=x[i] by simp[a]];exact h _<|aH a
 rw[show x.getD i XV=XV by simp[a]];simp[XV]
theorem IU.set(h:IU x)(i:Nat)(b:q.ps.length<=3):IU (x.set i q):=λy a=>by
 rcases fE a with a|a;·exact h y a
 subst a;exact b
theorem qg(b:Bool)(a:List Int):∀(k i:Nat)(g:I5),IU g.xs->IU (Zm b a k i g).xs
 |0,_,_,h=>h
 |k+1,i,g,h=>by
  rw[Zm];refine qg b a k (i+1) _ (h.set i ?_);show(VK (Uy _ g.s).1 g.v).length<=3;rw[KI];exact km _ _
theorem qK(a:List (List Int)):∀(k i:Nat)(b:List Xe)(s:Sr),IU b->IU (ZL a k i b s).1
 |0,_,_,_,h=>h
 |k+1,i,b,s,h=>by
  rw[ZL];refine qK a k (i+1) _ _ (h.set i ?_);show(JC a _ _ 0 _ s).1.length<=3;rw[Vr];exact h.get i
theorem qA(a:List Xe):∀(k b:Nat)(g:List Xe),IU g->IU (Ks a k b g)
 |0,_,_,h=>h
 |k+1,b,g,h=>by
  rw[Ks];refine qA a k (b+1) _ (h.set b ?_);show(YD _ _ _ _).length<=3;unfold YD;rw[bK];exact h.get b
theorem rN(h:IU x):IU (Zh x):=by
 unfold Zh;refine qA x _ 0 _ λc a=>?_;unfold YP at a;obtain⟨b,_,rfl⟩:=aY.1 a;exact h.get _
theorem Dm(h:IU x):IU (Tm n x):=λc a=>by
 unfold Tm at a;obtain⟨y,b,rfl⟩:=aY.1 a;have:=h y b;unfold Jp;simpa using this
theorem V0(s:Sr)(b:Bool):IU (XM s b).1.blocks:=by
 have a:IU (jg s b).1:=by
  unfold jg;refine qK _ _ _ _ _ (qg _ _ _ _ _ λx c=>?_);rw[(KD _ x c).1];simp
 unfold XM;dsimp only;split
 .refine Dm ?_;split;·exact rN a
  exact a
 split;·exact rN a
 exact a
theorem WS(d:IU x)(c:Kg x):∀a∈x,UD a:=λa b=>⟨aJ (d a b) oM,λp e=>aJ ((c a b).2.1 p e) oM,(c a b).2.2⟩
theorem sf(b:IU x)(c:Kg x)(i:Nat):(x.getD i XV).ps.length<=3/\(∀p∈(x.getD i XV).ps,p.args.length<=1000)/\(x.getD i XV).is.length<=1000:=by
 by_cases a:i<x.length
 .rw[show x.getD i XV=x[i] by simp[a]];exact⟨b _<|aH a,(c _<|aH a).2⟩
 rw[show x.getD i XV=XV by simp[a]];simp[XV]
theorem Vy(h:∀q∈x,UD q)(i:Nat)(b:UD q):∀y∈x.set i q,UD y:=λy a=>by
 rcases fE a with a|a;·exact h y a
 subst a;exact b
theorem rC(h:q.ps.length<=3/\(∀p∈q.ps,p.args.length<=1000)/\q.is.length<=1000)(d:Int)(b:List Int)(c:b.length<=1001):UD ⟨q.ps.set 0 ⟨d,b⟩,q.is,q.te⟩:=by
 refine⟨by show(q.ps.set 0 _).length<=4;rw[bL];omega,λp a=>?_,h.2.2⟩;rcases fE a with a|a;·exact aJ (h.2.1 p a) oM
 subst a;exact c
theorem th(h:q.ps.length<=3/\(∀p∈q.ps,p.args.length<=1000)/\q.is.length<=1000):(q.ps.getD 0 Wo).args.length<=1000:=by
 by_cases a:0<q.ps.length
 .rw[show q.ps.getD 0 Wo=q.ps[0] by simp[a]];exact h.2.1 _<|aH a
 rw[show q.ps.getD 0 Wo=Wo by simp at a;simp[a]];simp[Wo]
theorem yO{V:Nat}{s:Sr}(e:IU x)(i:Kg x):(ZM V x s).1.length=x.length/\∀a∈(ZM V x s).1,UD a:=by
 have d:=WS e i;have c:=λl=>sf e i l;have j:∀{a:Xe},(a.ps.length<=3/\(∀p∈a.ps,p.args.length<=1000)/\a.is.length<=1000)->UD a:=λh=>⟨oM,λp k=>aJ (h.2.1 p k) oM,h.2.2⟩
 have g:∀b v s,(KM x b v s).1.length=x.length/\∀a∈(KM x b v s).1,UD a:=λb v s=>by
  unfold KM;split;·exact⟨sP,Vy d b<|j (c b)⟩
  exact⟨rfl,d⟩
 have f:∀b v s,(U1 x b v s).1.length=x.length/\∀a∈(U1 x b v s).1,UD a:=λb v s=>by
  unfold U1;split
  .split;·exact⟨sP,Vy d b<|j ⟨(c b).1,(c b).2.1,by show(List.set _ _ _).length<=1000;rw[bL];exact(c b).2.2⟩⟩
   exact g b v _
  exact g b v s
 unfold ZM kg;split
 .split
  .refine⟨sP,Vy d _ ?_⟩;exact rC (c _) _ _ (by rw[bL];have:=th<|c (Ax s x.length).1.toNat;omega)
  exact f _ _ _
 exact f _ _ _
theorem zL{V:Nat}{s:Sr}(e:IU x)(f:Kg x):(XN V x s).blocks.length<=x.length/\∀c∈(XN V x s).blocks,UD c:=by
 have g:=WS e f;have a:=λj=>sf e f j;have d:∀{c:Xe},(c.ps.length<=3/\(∀p∈c.ps,p.args.length<=1000)/\c.is.length<=1000)->UD c:=λh=>⟨oM,λp b=>aJ (h.2.1 p b) oM,h.2.2⟩;unfold XN;split;·exact⟨aN _,λc i=>absurd i sP⟩
 refine⟨sP,Vy g _ ?_⟩;unfold Za;split
 .refine⟨by show(_++[_]).length<=4;rw[aQ];have:=(a (Ax (Ax s 16).2 x.length).1.toNat).1;simp only[bA,bO];omega,λp b=>?_,(a _).2.2⟩;rcases bU.1 b with b|b;·exact aJ ((a _).2.1 p b) oM
  simp only[cH,eA,lL]at b;subst b;simp
 split;·exact d<|a _
 split
 .split
  .refine rC (a _) _ _ ?_;have ha:=th<|a (Ax (Ax s 16).2 x.length).1.toNat;unfold jb;split;·rw[aQ];simp only[bA,bO];omega
   split;·rw[bL];omega
   rw[mF];omega
  exact d<|a _
 split;·exact d ⟨(a _).1,(a _).2.1,by show(List.set _ _ _).length<=1000;rw[bL];exact(a _).2.2⟩
 exact d<|a _
structure Y3 where
 k:Nat
 tl:List Value
theorem M5{Q:Exit->Act->World->Prop}(w:World)(E:Nat->Nat×Nat×Nat)(x v G n c:Nat)(a:List Xe)(F D:Nat->Value)(av:Nat->Nat->Value)(top:Int)(b j:Nat)(c0 c2 J K:Value)(hQ:Hs (∀c (U:Act) t v w,Q (.panic c) (U.put (some t) v) w->Q (.panic c) U w))(X:b<a.length)(hj:j<a[b].ps.length)(hn:Hs (n=a.length))(aq:Hs (a[b].ps.length<=1000/\a[b].ps[j].args.length<=1000))
 (Z:∀(i:List Value)(s:World),i.length=161->KG w s E x v G n c (a.set b<|a[b].setPhi j ⟨a[b].ps[j].dst,a[b].ps[j].args.map λz=>wrap64<|top-z⟩) F D av->∀c6,Q (.exit 4) ⟨(c0::Hn w.heap.size::c2::Hp top::Hp ((b:Nat):Int)::Hp ((j:Nat):Int)::c6::J::K::i).toArray,[]⟩ s)
 (i:List Value) (wr:World) (p:i.length=161) (V:Hs (KG w wr E x v G n c a F D av)) :
 Code.wp prog (Code.loop M7) Q ⟨(c0::Hn w.heap.size::c2::Hp top::Hp ((b:Nat):Int)::Hp ((j:Nat):Int)::Hp ((0:Nat):Int)::J::K::i).toArray,[]⟩ wr:=by
 have HX:=Xa Z;clear Z;obtain⟨M,W⟩:∃M,M=a[b].ps[j].args.length:=⟨_,rfl⟩;have u:=Xa W;refine iY (λB wr=>∃A:Y3,B=⟨(c0::.pointer (some ⟨w.heap.size,0,none⟩)::c2::.int .i64 top::.int .i64 ((b:Nat):Int)::.int .i64 ((j:Nat):Int)::.int .i64 ((A.k:Nat):Int)::J::K::A.tl).toArray,[]⟩/\A.tl.length=161/\A.k<=M/\Hs (KG w wr E x v G n c (a.set b<|a[b].setPhi j ⟨a[b].ps[j].dst,Xr (λz=>wrap64<|top-z) A.k a[b].ps[j].args⟩) F D av)) (λB _=>M-(intOf<|B.tmps.getD 6 undef).toNat) ⟨⟨0,i⟩,rfl,p,aN _,Xa (by
  have l:a.set b (a[b].setPhi j ⟨a[b].ps[j].dst,Xr (λz=>wrap64<|top-z) 0 a[b].ps[j].args⟩)=a:=by
   rw[Tf];show a.set b ⟨a[b].ps.set j a[b].ps[j],a[b].is,a[b].te⟩=a;rw[fK];exact fK X
  rw[l];exact V)⟩ ?_
 clear V p W;rintro B wr⟨⟨k,i⟩,rfl,p,hk,d⟩;dsimp only at p hk d |-
 conv=>arg 2;whnf
 obtain⟨az,rfl⟩:=fy i p;simp only[ae,Nat.reduceAdd];clear p;have af:(a.set b<|a[b].setPhi j ⟨a[b].ps[j].dst,Xr (λz=>wrap64<|top-z) k a[b].ps[j].args⟩).length=n:=by rw[bL];exact hn.symm
 have f:b<(a.set b<|a[b].setPhi j ⟨a[b].ps[j].dst,Xr (λz=>wrap64<|top-z) k a[b].ps[j].args⟩).length:=by simpa using X
 have C:(a.set b<|a[b].setPhi j ⟨a[b].ps[j].dst,Xr (λz=>wrap64<|top-z) k a[b].ps[j].args⟩)[b]=a[b].setPhi j ⟨a[b].ps[j].dst,Xr (λz=>wrap64<|top-z) k a[b].ps[j].args⟩:=Xj _ _ _ _;have o:j<(a.set b<|a[b].setPhi j ⟨a[b].ps[j].dst,Xr (λz=>wrap64<|top-z) k a[b].ps[j].args⟩)[b].ps.length:=by rw[C];simpa [Xe.setPhi]using hj
 have h:((a.set b<|a[b].setPhi j ⟨a[b].ps[j].dst,Xr (λz=>wrap64<|top-z) k a[b].ps[j].args⟩)[b].ps[j]).args=Xr (λz=>wrap64<|top-z) k a[b].ps[j].args:=by simp only[Xe.setPhi,Xj]
 have R:((a.set b<|a[b].setPhi j ⟨a[b].ps[j].dst,Xr (λz=>wrap64<|top-z) k a[b].ps[j].args⟩)[b].ps[j]).dst=a[b].ps[j].dst:=by simp only[Xe.setPhi,Xj]
 have a1:b<n:=oN hn.o;obtain⟨g,L,q⟩:=(d.fn.ps b f).got oM;obtain⟨r,P⟩:∃r,r=(a.set b<|a[b].setPhi j ⟨a[b].ps[j].dst,Xr (λz=>wrap64<|top-z) k a[b].ps[j].args⟩)[b].ps.length:=⟨_,rfl⟩;rw[<-P]at q;have a3:j<r:=oM;obtain⟨aa,I,m⟩:=(d.fn.args b f j o).form;rw[h,Ys,<-u.o]at m;have x1:Cl wr w.heap.size 1 (.slice (some ⟨G,0,none⟩) n c):=Bx.cell d.box rfl;have x2:wr.cell? ⟨G,b*6,none⟩=some (.slice (some ⟨g,0,none⟩) r L):=by rw[<-q];exact(d.fn.cells f).1
 have x3:wr.cell? ⟨g,j*2+1,none⟩=some (.slice aa M I):=by rw[<-m];exact(d.fn.phiCells f o q).2
 have a0:M<=1000:=oP aq.o u.o;by_cases ar:k<M
 .have ax:(k:Int)<M:=oM;have O:k<a[b].ps[j].args.length:=by rw[<-u.o];exact ar
  obtain⟨e,ay,N⟩:=(d.fn.args b f j o).got (by rw[h,Ys];omega);rw[h,Ys,<-u.o]at N;rw[m]at N;injection N with e1 _ e3;subst e1 e3;obtain⟨ab,y,Y,hz⟩:=d.fn.setArg (k:=k) (d:=wrap64<|top-a[b].ps[j].args[k]) f o (by rw[h,Ys];exact O) m;have a2:wr.cell? ⟨e,k,none⟩=some (.int .i64 a[b].ps[j].args[k]):=by
   rw[Y];congr 2;simp only[h];exact Vw O _
  have ap:x<=e:=by
   have:=(d.fn.args b f j o).own.lt e (by rw[m];rfl);exact this.1
  have S:=Xa (d.put ab (by rw[y];simp) ap);have T:Hs ((a.set b<|a[b].setPhi j ⟨a[b].ps[j].dst,Xr (λz=>wrap64<|top-z) k a[b].ps[j].args⟩).set b ((a.set b<|a[b].setPhi j ⟨a[b].ps[j].dst,Xr (λz=>wrap64<|top-z) k a[b].ps[j].args⟩)[b].setPhi j ⟨((a.set b<|a[b].setPhi j ⟨a[b].ps[j].dst,Xr (λz=>wrap64<|top-z) k a[b].ps[j].args⟩)[b].ps[j]).dst,((a.set b<|a[b].setPhi j ⟨a[b].ps[j].dst,Xr (λz=>wrap64<|top-z) k a[b].ps[j].args⟩)[b].ps[j]).args.set k (wrap64<|top-a[b].ps[j].args[k])⟩)=(a.set b<|a[b].setPhi j ⟨a[b].ps[j].dst,Xr (λz=>wrap64<|top-z) (k+1) a[b].ps[j].args⟩)):=Xa (by
   rw[R,h,C,gE,<-TR O];simp[Xe.setPhi])
  rw[T.o]at S;have al:Hs (∀H,(wr.setCell ⟨e,k,none⟩ H).cell? ⟨w.heap.size,1,none⟩=some (.slice (some ⟨G,0,none⟩) n c)/\(wr.setCell ⟨e,k,none⟩ H).cell? ⟨G,b*6,none⟩=some (.slice (some ⟨g,0,none⟩) r L)/\(wr.setCell ⟨e,k,none⟩ H).cell? ⟨g,j*2+1,none⟩=some (.slice (some ⟨e,0,none⟩) M I)):=Xa (λH=>by
   have l1:=d.fr w.heap.size<|aA _;have l2:=d.fn.blks.lab G rfl;have l3:=(d.fn.ps b f).lab g (by rw[q];rfl);have n1:w.heap.size≠e:=λl=>by rw[l,y]at l1;simp at l1
   have n2:G≠e:=λl=>by rw[l,y]at l2;simp at l2
   have n3:g≠e:=λl=>by rw[l,y]at l3;simp at l3
   exact⟨(Xc<|Below.heap_setCell _ _ _ _ n1).trans x1,(Xc<|Below.heap_setCell _ _ _ _ n2).trans x2,(Xc<|Below.heap_setCell _ _ _ _ n3).trans x3⟩)
  clear ab Y h R C q m P y af T o f;generalize a[b].ps[j].args[k]=z at*;go_wp2_with fail
  refine Y7 (λs=>s.cell? ⟨w.heap.size,1,none⟩=some (.slice (some ⟨G,0,none⟩) n c)/\s.cell? ⟨G,b*6,none⟩=some (.slice (some ⟨g,0,none⟩) r L)/\s.cell? ⟨g,j*2+1,none⟩=some (.slice (some ⟨e,0,none⟩) M I)) λhHeld=>?_;refine X0 0 ?_;refine X0 1 ?_;refine X0 2 ?_;refine X0 3 ?_;refine X0 4 ?_;refine X0 5 ?_;refine X0 6 ?_;refine X0 7 ?_;refine X0 8 ?_;refine X0 9 ?_;refine X0 10 ?_;refine X0 11 ?_;refine X0 12 ?_;refine X0 13 ?_;refine X0 14 ?_;refine X0 15 ?_;refine X0 16 ?_;refine X0 17 ?_;refine X0 18 ?_;refine X0 19 ?_;refine X0 20 ?_;refine X0 21 ?_;refine X0 22 ?_;refine X0 23 ?_;refine Xs 24 λao hK=>?_;go_simp;refine hK _ _ kP λhHeld=>?_;clear hK;refine X0 25 ?_;refine X0 26 ?_;refine Xs 27 λao hK=>?_;go_simp;refine hK _ _ (al _) λhHeld=>?_;clear hK;refine Yq ?_;clear hHeld;go_wp2_with fail
  refine⟨⟨⟨k+1,_⟩,rfl,rfl,(by show k+1<=M;omega),Xa ?_⟩,by simp[intOf];omega⟩;exact S.drew
 have ax:¬(k:Int)<M:=oM;have ad:k=a[b].ps[j].args.length:=by rw[<-u.o];omega
 have aj:Hs (KG w wr E x v G n c (a.set b<|a[b].setPhi j ⟨a[b].ps[j].dst,a[b].ps[j].args.map λz=>wrap64<|top-z⟩) F D av):=Xa (by
  have:=d.o;rw[ad,Uj]at this;exact this)
 clear ad h R C q m P af o f;go_wp2_with fail
 exact HX _ _ rfl aj _
def Ym(top:Int)(p:Ph):Ph:=⟨wrap64<|top-p.dst,p.args.map λz=>wrap64<|top-z⟩
structure Y2 where
 j:Nat
 c6:Value
 tl:List Value
theorem M3{Q:Exit->Act->World->Prop}(w:World)(y:Nat->Nat×Nat×Nat)(r v G n c:Nat)(a:List Xe)(z u:Nat->Value)(av:Nat->Nat->Value)(top:Int)(b:Nat)(c0 c2 I J:Value)(hQ:Hs (∀c (B:Act) R v w,Q (.panic c) (B.put (some R) v) w->Q (.panic c) B w))(L:b<a.length)(hn:Hs (n=a.length))(N:Hs (a[b].ps.length<=1000/\∀ax∈a[b].ps,ax.args.length<=1000))
 (Z:∀(c5 m:Value)(g:List Value)(p:World),g.length=161->KG w p y r v G n c (a.set b ⟨a[b].ps.map (Ym top),a[b].is,a[b].te⟩) z u av->Q (.exit 2) ⟨(c0::Hn w.heap.size::c2::Hp top::Hp ((b:Nat):Int)::c5::m::I::J::g).toArray,[]⟩ p)
 (m:Value) (g:List Value) (wr:World) (h:g.length=161) (D:Hs (KG w wr y r v G n c a z u av)) :
 Code.wp prog (Code.loop Mh) Q ⟨(c0::Hn w.heap.size::c2::Hp top::Hp ((b:Nat):Int)::Hp ((0:Nat):Int)::m::I::J::g).toArray,[]⟩ wr:=by
 have HX:=Xa Z;clear Z;let⟨M,X⟩:∃M,M=a[b].ps.length:=⟨_,rfl⟩;have q:=Xa X;refine iY (λC wr=>∃x:Y2,C=⟨(c0::Hn w.heap.size::c2::Hp top::Hp ((b:Nat):Int)::Hp ((x.j:Nat):Int)::x.c6::I::J::x.tl).toArray,[]⟩/\x.tl.length=161/\x.j<=M/\Hs (KG w wr y r v G n c (a.set b ⟨Xr (Ym top) x.j a[b].ps,a[b].is,a[b].te⟩) z u av)) (λC _=>M-(intOf<|C.tmps.getD 5 undef).toNat) ⟨⟨0,m,g⟩,rfl,h,aN _,Xa (by
  have s:a.set b ⟨Xr (Ym top) 0 a[b].ps,a[b].is,a[b].te⟩=a:=by
   rw[Tf];exact fK L
  rw[s];exact D)⟩ ?_
 clear D h X;rintro C wr⟨⟨j,m,g⟩,rfl,h,hj,f⟩;dsimp only at h hj f |-
 conv=>arg 2;whnf
 obtain⟨al,rfl⟩:=fy g h;simp only[ae,Nat.reduceAdd];clear h;have l:b<(a.set b ⟨Xr (Ym top) j a[b].ps,a[b].is,a[b].te⟩).length:=by simpa using L
 have d:(a.set b ⟨Xr (Ym top) j a[b].ps,a[b].is,a[b].te⟩)[b]=⟨Xr (Ym top) j a[b].ps,a[b].is,a[b].te⟩:=Xj _ _ _ _;have a1:b<n:=oN hn.o;let⟨ga,K,i⟩:=(f.fn.ps b l).form;rw[d]at i;rw[show(⟨Xr (Ym top) j a[b].ps,a[b].is,a[b].te⟩:Xe).ps.length=M from(Ys _ _).trans q.symm]at i;have x1:Cl wr w.heap.size 1 (Hl G n c):=Bx.cell f.box rfl;have x2:wr.cell? (Hk G<|b*6)=some (.slice ga M K):=by rw[<-i];exact(f.fn.cells l).1
 have a0:M<=1000:=oP N.o q.o;by_cases aq:j<M
 .have ar:(j:Int)<M:=oM;have t:j<a[b].ps.length:=by rw[<-q.o];exact aq
  have ab:j<(a.set b ⟨Xr (Ym top) j a[b].ps,a[b].is,a[b].te⟩)[b].ps.length:=by rw[d];show j<(Xr _ _ _).length;rw[Ys];exact t
  have P:(a.set b ⟨Xr (Ym top) j a[b].ps,a[b].is,a[b].te⟩)[b].ps[j]=a[b].ps[j]:=by simp only[d];exact Vw t _
  let⟨k,az,O⟩:=(f.fn.ps b l).got oM;rw[show(a.set b ⟨Xr (Ym top) j a[b].ps,a[b].is,a[b].te⟩)[b].ps.length=M by rw[d];exact(Ys _ _).trans q.symm]at O;rw[i]at O;injection O with e1 _ e3;subst e1 e3;let⟨aa,E,Y,hz⟩:=f.fn.setDst (d:=wrap64<|top-a[b].ps[j].dst) l ab i;rw[P]at Y;have ap:=((f.fn.ps b l).own.lt k (by rw[i];rfl)).1;have A:=Xa (f.put aa (by rw[E];simp) ap);rw[P]at A;have V:Hs (∀S,(wr.setCell (Hk k<|j*2) S).cell? (Hk w.heap.size 1)=some (Hl G n c)/\(wr.setCell (Hk k<|j*2) S).cell? (Hk G<|b*6)=some (Hl k M K)):=Xa (λS=>by
   have l1:=f.fr w.heap.size<|aA _;have l2:=f.fn.blks.lab G rfl;have n1:w.heap.size≠k:=λs=>by rw[s,E]at l1;simp at l1
   have n2:G≠k:=λs=>by rw[s,E]at l2;simp at l2
   exact⟨(Xc<|Below.heap_setCell _ _ _ _ n1).trans x1,(Xc<|Below.heap_setCell _ _ _ _ n2).trans x2⟩)
  have ad:=Xa<|N.2 _ (aH t);have W:Hs (((a.set b ⟨Xr (Ym top) j a[b].ps,a[b].is,a[b].te⟩)).set b ((a.set b ⟨Xr (Ym top) j a[b].ps,a[b].is,a[b].te⟩)[b].setPhi j ⟨wrap64<|top-a[b].ps[j].dst,a[b].ps[j].args⟩)=(a.set b ⟨(Xr (Ym top) j a[b].ps).set j ⟨wrap64<|top-a[b].ps[j].dst,a[b].ps[j].args⟩,a[b].is,a[b].te⟩)):=Xa (by rw[d,gE];rfl);rw[W.o]at A;have af:Hs (((Xr (Ym top) j a[b].ps).set j ⟨wrap64<|top-a[b].ps[j].dst,a[b].ps[j].args⟩).set j ⟨wrap64<|top-a[b].ps[j].dst,a[b].ps[j].args.map λT=>wrap64<|top-T⟩=Xr (Ym top) (j+1) a[b].ps):=Xa (by rw[gE];exact TR t);have H:Hs (j<((Xr (Ym top) j a[b].ps).set j ⟨wrap64<|top-a[b].ps[j].dst,a[b].ps[j].args⟩).length/\(Xr (Ym top) j a[b].ps).length=a[b].ps.length):=Xa ⟨by rw[bL,Ys];exact t,Ys _ _⟩;have ay:Hs (∃e,a[b].ps[j].dst=e):=Xa ⟨_,rfl⟩;clear aa d i E ab l P W;generalize a[b].ps[j].dst=e at*;generalize a[b].ps[j].args=args at*;go_wp2_with fail
  refine Y7 (λp=>p.cell? (Hk w.heap.size 1)=some (Hl G n c)/\p.cell? (Hk G<|b*6)=some (Hl k M K)) λhHeld=>?_;refine X0 0 ?_;refine X0 1 ?_;refine X0 2 ?_;refine X0 3 ?_;refine X0 4 ?_;refine X0 5 ?_;refine X0 6 ?_;refine X0 7 ?_;refine X0 8 ?_;refine X0 9 ?_;refine X0 10 ?_;refine X0 11 ?_;refine X0 12 ?_;refine X0 13 ?_;refine X0 14 ?_;refine X0 15 ?_;refine X0 16 ?_;refine Xs 17 λaj hK=>?_;go_simp;refine hK _ _ kP λhHeld=>?_;clear hK;refine X0 18 ?_;refine X0 19 ?_;refine X0 20 ?_;refine Xs 21 λaj hK=>?_;go_simp;refine hK _ _ (V _) λhHeld=>?_;clear hK;refine Yq ?_;clear hHeld x1 x2 Y hz V;have U:=Xa A.drew;clear A;rw[show IntKind.i64.wrap (top-e)=wrap64 (top-e)from IntWalk.i64_left _];go_wp2_with fail
  have ao:b<((a.set b ⟨(Xr (Ym top) j a[b].ps).set j ⟨wrap64<|top-e,args⟩,a[b].is,a[b].te⟩)).length:=by simpa using L
  have d:((a.set b ⟨(Xr (Ym top) j a[b].ps).set j ⟨wrap64<|top-e,args⟩,a[b].is,a[b].te⟩))[b]=⟨(Xr (Ym top) j a[b].ps).set j ⟨wrap64<|top-e,args⟩,a[b].is,a[b].te⟩:=Xj _ _ _ _;refine M5 w y r v G n c ((a.set b ⟨(Xr (Ym top) j a[b].ps).set j ⟨wrap64<|top-e,args⟩,a[b].is,a[b].te⟩)) z u av top b j _ _ _ _ (by exact Xa λc B R v w D=>hQ c B R v w D) ao (by rw[d];exact H.1) (Xa<|by rw[bL];exact hn) (Xa ⟨by rw[d];show(List.set _ _ _).length<=1000;rw[bL,H.2];exact N.1,by simp only[d,Xj];exact ad⟩) ?_ _ _ (by rfl) (by exact U);intro g p h o m;obtain⟨al,rfl⟩:=fy g h;simp only[ae,Nat.reduceAdd];clear h;have F:=Xa o;clear o U;go_wp2_with fail
  refine⟨⟨⟨j+1,_,_⟩,rfl,rfl,(by show j+1<=M;omega),Xa ?_⟩,by simp[intOf];omega⟩;have o:=F.o;rw[gE]at o;have a2:j<((a.set b ⟨(Xr (Ym top) j a[b].ps).set j ⟨wrap64<|top-e,args⟩,a[b].is,a[b].te⟩))[b].ps.length:=by rw[d];exact H.1
  have e2:(((a.set b ⟨(Xr (Ym top) j a[b].ps).set j ⟨wrap64<|top-e,args⟩,a[b].is,a[b].te⟩))[b].setPhi j ⟨(((a.set b ⟨(Xr (Ym top) j a[b].ps).set j ⟨wrap64<|top-e,args⟩,a[b].is,a[b].te⟩))[b].ps[j]).dst,(((a.set b ⟨(Xr (Ym top) j a[b].ps).set j ⟨wrap64<|top-e,args⟩,a[b].is,a[b].te⟩))[b].ps[j]).args.map λT=>wrap64<|top-T⟩)=⟨Xr (Ym top) (j+1) a[b].ps,a[b].is,a[b].te⟩:=by
   rw[<-af.o];simp only[d,Xj,Xe.setPhi]
  rw[e2]at o;exact o
 have ar:¬(j:Int)<M:=oM;have ac:j=a[b].ps.length:=by rw[<-q.o];omega
 have F:Hs (KG w wr y r v G n c (a.set b ⟨a[b].ps.map (Ym top),a[b].is,a[b].te⟩) z u av):=Xa (by
  have:=f.o;rw[ac,Uj]at this;exact this)
 clear ac d i l;go_wp2_with fail
 exact HX _ _ _ _ rfl F
structure Y4 where
 j:Nat
 c8:Value
 tl:List Value
def VV(w:World)(g:Nat)(x:Yg):Prop:=Bx w g #[.int .i64 x.op,.int .i64 x.dst,.int .i64 x.a,.int .i64 x.b,.int .i64 x.imm] 48
theorem VV.cells{x:Yg}(h:VV w g x):w.cell? (Hk g 0)=some (Hp x.op)/\w.cell? (Hk g 1)=some (Hp x.dst)/\w.cell? (Hk g 2)=some (Hp x.a)/\w.cell? (Hk g 3)=some (Hp x.b)/\w.cell? (Hk g 4)=some (Hp x.imm):=⟨Bx.cell h rfl,Bx.cell h rfl,Bx.cell h rfl,Bx.cell h rfl,Bx.cell h rfl⟩
theorem VV.set1{x:Yg}(h:VV w n x)(d:Int):VV (w.setCell ⟨n,1,none⟩ (.int .i64 d)) n ⟨x.op,d,x.a,x.b,x.imm⟩:=by
 have:=Bx.set h 1<|Hp d;simpa [VV]using this
theorem VV.set2{x:Yg}(h:VV w n x)(d:Int):VV (w.setCell ⟨n,2,none⟩ (.int .i64 d)) n ⟨x.op,x.dst,d,x.b,x.imm⟩:=by
 have:=Bx.set h 2<|Hp d;simpa [VV]using this
theorem VV.set3{x:Yg}(h:VV w n x)(d:Int):VV (w.setCell ⟨n,3,none⟩ (.int .i64 d)) n ⟨x.op,x.dst,x.a,d,x.imm⟩:=by
 have:=Bx.set h 3<|Hp d;simpa [VV]using this
theorem NP{T:Exit->Act->World->Prop}(w:World)(f:Nat->Nat×Nat×Nat)(d v G n c:Nat)(a:List Xe)(i h:Nat->Value)(av:Nat->Nat->Value)(top:Int)(b:Nat)(c0 c2 c5 c6:Value)(hQ:Hs (∀c (ao:Act) t v w,T (.panic c) (ao.put (some t) v) w->T (.panic c) ao w))(hb:b<a.length)(hn:Hs (n=a.length))(a7:Hs (a[b].is.length<=1000))
 (aq:∀(c7 J:Value)(y:List Value)(m:World),y.length=161->KG w m f d v G n c (a.set b ⟨a[b].ps,a[b].is.map (He top),a[b].te⟩) i h av->T (.exit 6) ⟨(c0::Hn w.heap.size::c2::Hp top::Hp ((b:Nat):Int)::c5::c6::c7::J::y).toArray,[]⟩ m)
 (J:Value) (y:List Value) (wr:World) (F:y.length=161) (ap:Hs (KG w wr f d v G n c a i h av)) :
 Code.wp prog (Code.loop M6) T ⟨(c0::Hn w.heap.size::c2::Hp top::Hp ((b:Nat):Int)::c5::c6::Hp ((0:Nat):Int)::J::y).toArray,[]⟩ wr:=by
 have HX:=Xa aq;clear aq;obtain⟨M,hM⟩:∃M,M=a[b].is.length:=⟨_,rfl⟩;have S:=Xa hM;refine iY (λU wr=>∃H:Y4,U=⟨(c0::.pointer (some ⟨w.heap.size,0,none⟩)::c2::.int .i64 top::.int .i64 ((b:Nat):Int)::c5::c6::.int .i64 ((H.j:Nat):Int)::H.c8::H.tl).toArray,[]⟩/\H.tl.length=161/\H.j<=M/\Hs (KG w wr f d v G n c (a.set b ⟨a[b].ps,Xr (He top) H.j a[b].is,a[b].te⟩) i h av)) (λU _=>M-(intOf<|U.tmps.getD 7 undef).toNat) ⟨⟨0,J,y⟩,rfl,F,aN _,Xa (by
  have e:a.set b ⟨a[b].ps,Xr (He top) 0 a[b].is,a[b].te⟩=a:=by
   rw[Tf];exact fK hb
  rw[e];exact ap)⟩ ?_
 clear ap F hM;rintro U wr⟨⟨j,J,y⟩,rfl,F,hj,k⟩;dsimp only at F hj k |-
 conv=>arg 2;whnf
 obtain⟨bb,rfl⟩:=fy y F;simp only[ae,Nat.reduceAdd];clear F;have s:b<(a.set b ⟨a[b].ps,Xr (He top) j a[b].is,a[b].te⟩).length:=by simpa using hb
 have P:(a.set b ⟨a[b].ps,Xr (He top) j a[b].is,a[b].te⟩)[b]=⟨a[b].ps,Xr (He top) j a[b].is,a[b].te⟩:=Xj _ _ _ _;have bd:b<n:=oN hn.o;have V:(a.set b ⟨a[b].ps,Xr (He top) j a[b].is,a[b].te⟩)[b].is.length=M:=by rw[P];exact(Ys _ _).trans S.symm
 obtain⟨ga,cp,u⟩:=(k.fn.ins b s).form;rw[V]at u;have x1:Cl wr w.heap.size 1 (.slice (some ⟨G,0,none⟩) n c):=Bx.cell k.box rfl;have x2:wr.cell? ⟨G,b*6+1,none⟩=some (.slice ga M cp):=by rw[<-u];exact(k.fn.cells s).2.1
 have bc:M<=1000:=oP a7.o S.o;by_cases a8:j<M
 .have a9:(j:Int)<M:=oM;have az:j<a[b].is.length:=by rw[<-S.o];exact a8
  have ax:j<(a.set b ⟨a[b].ps,Xr (He top) j a[b].is,a[b].te⟩)[b].is.length:=oM;have a1:(a.set b ⟨a[b].ps,Xr (He top) j a[b].is,a[b].te⟩)[b].is[j]=a[b].is[j]:=by simp only[P];exact Vw az _
  obtain⟨g,ba,a0⟩:=(k.fn.ins b s).got oM;rw[V,u]at a0;injection a0 with e1 _ e3;subst e1 e3;have al:Hs (∀W,KG w W f d v G n c (a.set b ⟨a[b].ps,Xr (He top) j a[b].is,a[b].te⟩) i h av->ZU (Wn W g (j*5) (He top a[b].is[j])) f d (.slice (some ⟨G,0,none⟩) n c) (a.set b ⟨a[b].ps,Xr (He top) (j+1) a[b].is,a[b].te⟩) i h av/\f g=(3,b,0)/\Jk W g (j*5) a[b].is[j]/\(∀x,W.frozen? ⟨g,x,none⟩=false)/\d<=g):=Xa (λW K=>by
   obtain⟨h1,h2,h3,h4⟩:=K.fn.setIns (x:=He top a[b].is[j]) s ax u;rw[a1]at h3;rw[gE,P]at h1;simp only[TR az]at h1;exact⟨h1,h2,h3,h4,((K.fn.ins b s).own.lt g (by rw[u];rfl)).1⟩)
  obtain⟨-,-,⟨i0,i1,i2,i3,i4⟩,-,-⟩:=al wr k;have a2:Hs (∀W,KG w W f d v G n c (a.set b ⟨a[b].ps,Xr (He top) j a[b].is,a[b].te⟩) i h av->W.cell? ⟨w.heap.size,1,none⟩=some (.slice (some ⟨G,0,none⟩) n c)/\W.cell? ⟨G,b*6+1,none⟩=some (.slice (some ⟨g,0,none⟩) M cp)):=Xa (λW K=>⟨Bx.cell K.box rfl,by rw[<-u];exact(K.fn.cells s).2.1⟩);clear P u V ax s a1;generalize a[b].is[j]=X at*;go_wp2_with fail
  have Y:=Xa<|k.alloc (.cells #[.int .i64 X.op,.int .i64 X.dst,.int .i64 X.a,.int .i64 X.b,.int .i64 X.imm] 48);have I:Hs (VV (wr.alloc<|.cells #[.int .i64 X.op,.int .i64 X.dst,.int .i64 X.a,.int .i64 X.b,.int .i64 X.imm] 48) wr.heap.size X):=Xa<|Bx.new _ _ _;have Q:Hs (w.heap.size+2<=wr.heap.size):=Xa k.res.lt;clear k x1 x2 i0 i1 i2 i3 i4;generalize wr.alloc _=wq at*;generalize wr.heap.size=l at*;refine(ix X.op wq).mono ?_;rintro e bf⟨rfl,O⟩;subst O
  go_upto_if 115 with fail
  go_cut []from 93 to 145 λz=>Hs (KG w z f d v G n c (a.set b ⟨a[b].ps,Xr (He top) j a[b].is,a[b].te⟩) i h av)/\Hs (VV z l ⟨X.op,(if dB X.op=true then wrap64 (top-X.dst)else X.dst),X.a,X.b,X.imm⟩)
  case first=>
   obtain⟨o,p,b2,q,r⟩:=VV.cells I;have bz:=Bx.thaw I;cases hd:dB X.op with
   |false=>
    go_wp2;go_meet
    try rw[aM<|show ¬dB X.op=true by rw[hd];simp]
    exact⟨Y,I⟩
   |true=>
    go_wp2;go_meet;rw[aU hd];refine⟨Xa<|Y.putx Q,Xa ?_⟩;exact VV.set1 I _
  obtain⟨Z,B⟩:=hcut;clear Y I;obtain⟨o,p,b2,q,r⟩:=VV.cells B;go_wp2_with fail
  refine(kh X.op wc).mono ?_;rintro e bi⟨rfl,O⟩;subst O;clear o p b2 q r
  go_upto_if 123 with fail
  go_cut []from 93 to 145 λz=>Hs (KG w z f d v G n c (a.set b ⟨a[b].ps,Xr (He top) j a[b].is,a[b].te⟩) i h av)/\Hs (VV z l ⟨X.op,(if dB X.op=true then wrap64 (top-X.dst)else X.dst),(if aB X.op=true then wrap64 (top-X.a)else X.a),X.b,X.imm⟩)
  case first=>
   obtain⟨o,p,b2,q,r⟩:=VV.cells B;have bz:=Bx.thaw B;cases hd:aB X.op with
   |false=>
    go_wp2;go_meet
    try rw[aM<|show ¬aB X.op=true by rw[hd];simp]
    exact⟨Z,B⟩
   |true=>
    go_wp2;go_meet;rw[aU hd];refine⟨Xa<|Z.putx Q,Xa ?_⟩;exact VV.set2 B _
  obtain⟨aa,C⟩:=hcut;clear Z B;obtain⟨o,p,b2,q,r⟩:=VV.cells C;go_wp2_with fail
  refine(oH X.op wc).mono ?_;rintro e bl⟨rfl,O⟩;subst O;clear o p b2 q r
  go_upto_if 131 with fail
  go_cut []from 93 to 145 λz=>Hs (KG w z f d v G n c (a.set b ⟨a[b].ps,Xr (He top) j a[b].is,a[b].te⟩) i h av)/\Hs (VV z l ⟨X.op,(if dB X.op=true then wrap64 (top-X.dst)else X.dst),(if aB X.op=true then wrap64 (top-X.a)else X.a),(if bB X.op=true then wrap64 (top-X.b)else X.b),X.imm⟩)
  case first=>
   obtain⟨o,p,b2,q,r⟩:=VV.cells C;have bz:=Bx.thaw C;cases hd:bB X.op with
   |false=>
    go_wp2;go_meet
    try rw[aM<|show ¬bB X.op=true by rw[hd];simp]
    exact⟨aa,C⟩
   |true=>
    go_wp2;go_meet;rw[aU hd];refine⟨Xa<|aa.putx Q,Xa ?_⟩;exact VV.set3 C _
  obtain⟨D,af⟩:=hcut;clear aa C;have a5:Hs (He top X=⟨X.op,(if dB X.op=true then wrap64 (top-X.dst)else X.dst),(if aB X.op=true then wrap64 (top-X.a)else X.a),(if bB X.op=true then wrap64 (top-X.b)else X.b),X.imm⟩):=Xa rfl;rw[<-a5.o]at af;obtain⟨o,p,b2,q,r⟩:=VV.cells af;obtain⟨ar,L,⟨i0,i1,i2,i3,i4⟩,hz,E⟩:=al wc D;obtain⟨x1,x2⟩:=a2 wc D;have ab:=Xa ar;have N:l≠g:=λe=>by have:=D.fr l<|oN Q.o;rw[e,L]at this;simp at this
  have ad:Hs (w.heap.size≠g/\G≠g):=Xa ⟨λe=>by have:=D.fr w.heap.size<|aA _;rw[e,L]at this;simp at this,λe=>by have:=D.fn.blks.lab G rfl;rw[e,L]at this;simp at this⟩;have a4:=Xa L;generalize He top X=R at*;have aj:=Xa (have A:∀x,x≠g->(Wn wc g (j*5) R).drew.heap[x]?=wc.heap[x]?:=λx hq=>ZT hq
   And.intro ((Xc<|A _ ad.1).trans x1) (And.intro ((Xc<|A _ ad.2).trans x2) (And.intro ((Xc<|A _ N).trans o) (And.intro ((Xc<|A _ N).trans p) (And.intro ((Xc<|A _ N).trans b2) (And.intro ((Xc<|A _ N).trans q) ((Xc<|A _ N).trans r)))))))
  have ac:Hs (KG w (Wn wc g (j*5) R) f d v G n c (a.set b ⟨a[b].ps,Xr (He top) (j+1) a[b].is,a[b].te⟩) i h av):=Xa (D.step ab (λx _ e=>by
   have hq:x≠g:=λe2=>by rw[e2,a4.o]at e;simp at e
   exact ZT hq) (((((((Below.refl d wc).setCell (p:=⟨g,j*5,none⟩) E _).setCell (p:=⟨g,j*5+1,none⟩) E _).setCell (p:=⟨g,j*5+2,none⟩) E _).setCell (p:=⟨g,j*5+3,none⟩) E _).setCell (p:=⟨g,j*5+4,none⟩) E _)))
  unfold Wn at ac aj;clear ar L E ab;go_wp2_with fail
  refine Y7 (λm=>m.cell? ⟨w.heap.size,1,none⟩=some (.slice (some ⟨G,0,none⟩) n c)/\m.cell? ⟨G,b*6+1,none⟩=some (.slice (some ⟨g,0,none⟩) M cp)/\m.cell? ⟨l,0,none⟩=some (.int .i64 R.op)/\m.cell? ⟨l,1,none⟩=some (.int .i64 R.dst)/\m.cell? ⟨l,2,none⟩=some (.int .i64 R.a)/\m.cell? ⟨l,3,none⟩=some (.int .i64 R.b)/\m.cell? ⟨l,4,none⟩=some (.int .i64 R.imm)) λhHeld=>?_;refine X0 0 ?_;refine X0 1 ?_;refine X0 2 ?_;refine X0 3 ?_;refine X0 4 ?_;refine X0 5 ?_;refine X0 6 ?_;refine Xs 7 λa6 hK=>?_;go_simp;refine hK _ _ kP λhHeld=>?_;clear hK;refine X0 8 ?_;refine Xs 9 λa6 hK=>?_;go_simp;refine hK _ _ aj λhHeld=>?_;clear hK;refine Yq ?_;clear hHeld;go_wp2_with fail
  refine⟨⟨⟨j+1,_,_⟩,rfl,rfl,(by show j+1<=M;omega),Xa ?_⟩,by simp[intOf];omega⟩;exact ac.drew
 have a9:¬(j:Int)<M:=oM;have ay:j=a[b].is.length:=by rw[<-S.o];omega
 have a3:Hs (KG w wr f d v G n c (a.set b ⟨a[b].ps,a[b].is.map (He top),a[b].te⟩) i h av):=Xa (by
  have:=k.o;rw[ay,Uj]at this;exact this)
 clear ay P u s V;go_wp2_with fail
 exact HX _ _ _ _ rfl a3
structure Y1 where
 b:Nat
 c5:Value
 c6:Value
 c7:Value
 c8:Value
 tl:List Value
theorem ND{Q:Exit->Act->World->Prop}(w:World)(i:Nat->Nat×Nat×Nat)(f v G n c:Nat)(a:List Xe)(j g:Nat->Value)(av:Nat->Nat->Value)(top:Int)(c0 c2:Value)(hQ:Hs (∀c (m:Act) z v w,Q (.panic c) (m.put (some z) v) w->Q (.panic c) m w))(E:Hs (n=a.length))(ap:n<=11)(af:Hs (∀x∈a,x.ps.length<=1000/\(∀al∈x.ps,al.args.length<=1000)/\x.is.length<=1000))
 (T:∀(c5 o p q:Value)(e:List Value)(J:World),e.length=161->KG w J i f v G n c (a.map<|Jp top) j g av->Q (.exit 0) ⟨(c0::Hn w.heap.size::c2::Hp top::Hp ((n:Nat):Int)::c5::o::p::q::e).toArray,[]⟩ J)
 (c5 o p q:Value) (e:List Value) (wr:World) (d:e.length=161) (h:Hs (KG w wr i f v G n c a j g av)) :
 Code.wp prog (Code.loop Mf) Q ⟨(c0::Hn w.heap.size::c2::Hp top::Hp ((0:Nat):Int)::c5::o::p::q::e).toArray,[]⟩ wr:=by
 have HX:=Xa T;clear T;refine iY (λA wr=>∃x:Y1,A=⟨(c0::Hn w.heap.size::c2::Hp top::Hp ((x.b:Nat):Int)::x.c5::x.c6::x.c7::x.c8::x.tl).toArray,[]⟩/\x.tl.length=161/\x.b<=n/\Hs (KG w wr i f v G n c (Xr (Jp top) x.b a) j g av)) (λA _=>n-(intOf<|A.tmps.getD 4 undef).toNat) ⟨⟨0,c5,o,p,q,e⟩,rfl,d,aN _,Xa<|by rw[Tf];exact h⟩ ?_;clear h d;rintro A wr⟨⟨b,c5,o,p,q,e⟩,rfl,d,hb,u⟩;dsimp only at d hb u |-
 conv=>arg 2;whnf
 obtain⟨S,rfl⟩:=fy e d;simp only[ae,Nat.reduceAdd];clear d;have N:=Bx.c u.box 1;by_cases ao:b<n
 .have aj:(b:Int)<n:=oM;have C:b<a.length:=oN E.o;have r:b<(Xr (Jp top) b a).length:=by rw[Ys];exact C
  have I:=Vw C r;have K:=Xa<|af.o _ (aH C);go_wp2_with fail
  refine M3 w i f v G n c (Xr (Jp top) b a) j g av top b _ _ _ _ (by exact Xa λc m z v w h=>hQ c m z v w h) r (Xa<|by rw[Ys];exact E) (Xa<|by rw[I];exact⟨K.1,K.2.1⟩) ?_ _ _ _ (by rfl) u;intro c5 o e w1 d l;obtain⟨S,rfl⟩:=fy e d;simp only[ae,Nat.reduceAdd];clear d u N;rw[I]at l;have R:=Xa l;clear l;go_wp2_with fail
  have L:b<((Xr (Jp top) b a).set b ⟨a[b].ps.map (Ym top),a[b].is,a[b].te⟩).length:=by rw[bL];exact r
  have F:((Xr (Jp top) b a).set b ⟨a[b].ps.map (Ym top),a[b].is,a[b].te⟩)[b]=⟨a[b].ps.map (Ym top),a[b].is,a[b].te⟩:=Xj _ _ _ _;refine NP w i f v G n c ((Xr (Jp top) b a).set b ⟨a[b].ps.map (Ym top),a[b].is,a[b].te⟩) j g av top b _ _ _ _ (by exact Xa λc m z v w h=>hQ c m z v w h) L (Xa<|by rw[bL,Ys];exact E) (Xa<|by rw[F];exact K.2.2) ?_ _ _ _ (by rfl) R;intro p q e M d l;obtain⟨S,rfl⟩:=fy e d;simp only[ae,Nat.reduceAdd];clear d R;rw[F,gE]at l;have k:=Xa l;clear l;have B:b<((Xr (Jp top) b a).set b ⟨a[b].ps.map (Ym top),a[b].is.map (He top),a[b].te⟩).length:=by rw[bL];exact r
  have H:((Xr (Jp top) b a).set b ⟨a[b].ps.map (Ym top),a[b].is.map (He top),a[b].te⟩)[b]=⟨a[b].ps.map (Ym top),a[b].is.map (He top),a[b].te⟩:=Xj _ _ _ _;obtain⟨-,-,W,X,-,-⟩:=k.fn.cells B;rw[H]at W X;dsimp only at W X;have N:=Bx.c k.box 1;have P:Hs ((Xr (Jp top) b a).set b (Jp top a[b])=Xr (Jp top) (b+1) a):=Xa<|TR C;let⟨D,U,hz⟩:=k.fn.setTerA (d:=wrap64<|top-a[b].te.a) B;rw[H,gE]at D;have ac:=(k.fn.blks.own.lt G rfl).1;have O:=Xa (k.put D (by rw[U];simp) ac);have Z:Hs (∀Y,(M.setCell (Hk G<|b*6+2+1) Y).cell? (Hk w.heap.size 1)=some (Hl G n c)):=Xa (λY=>by
   have V:=k.fr w.heap.size<|aA _;have n1:w.heap.size≠G:=λy=>by rw[y,U]at V;simp at V
   exact(Xc<|Below.heap_setCell _ _ _ _ n1).trans N)
  by_cases s:a[b].te.kind=1
  .have ad:(a[b].te.kind != 1)=false:=by simpa using s
   have t:Hs (KG w M i f v G n c (Xr (Jp top) (b+1) a) j g av):=Xa (by
    have y:Jp top a[b]=⟨a[b].ps.map (Ym top),a[b].is.map (He top),a[b].te⟩:=by
     unfold Jp oU;rw[aM λh=>h s];rfl
    rw[<-P.o,y];exact k)
   clear s D F H I L B r;generalize a[b].te.kind=kd at*;go_wp2;exact⟨⟨⟨b+1,_,_,_,_,_⟩,⟨(by show(b:Int)+1=((b+1:Nat):Int);omega),rfl,rfl,rfl,rfl,rfl⟩,rfl,(by show b+1<=n;omega),t⟩,by simp[intOf];omega⟩
  have ad:(a[b].te.kind != 1)=true:=by simpa using s
  have t:Hs (KG w (M.setCell (Hk G<|b*6+3) (Hp<|wrap64 (top-a[b].te.a))) i f v G n c (Xr (Jp top) (b+1) a) j g av):=Xa (by
   have y:Jp top a[b]=⟨a[b].ps.map (Ym top),a[b].is.map (He top),⟨a[b].te.kind,wrap64<|top-a[b].te.a,a[b].te.to,a[b].te.els⟩⟩:=by
    unfold Jp oU;rw[aU s];rfl
   rw[<-P.o,y];exact O)
  clear s D F H I L B r O;generalize a[b].te.kind=kd at*;generalize a[b].te.a=ta at*;go_wp2_with fail
  refine Y7 (λJ=>J.cell? (Hk w.heap.size 1)=some (Hl G n c)) λhHeld=>?_;refine X0 0 ?_;refine X0 1 ?_;refine X0 2 ?_;refine X0 3 ?_;refine X0 4 ?_;refine X0 5 ?_;refine X0 6 ?_;refine X0 7 ?_;refine X0 8 ?_;refine X0 9 ?_;refine Xs 10 λaa hK=>?_;go_simp;refine hK _ _ kP λhHeld=>?_;clear hK;refine X0 11 ?_;refine X0 12 ?_;refine X0 13 ?_;refine X0 14 ?_;refine Xs 15 λaa hK=>?_;go_simp;refine hK _ _ (Z _) λhHeld=>?_;clear hK;refine Yq ?_;clear hHeld;go_wp2_with fail
  refine⟨⟨⟨b+1,_,_,_,_,_⟩,rfl,rfl,(by show b+1<=n;omega),Xa ?_⟩,by simp[intOf];omega⟩;exact t.drew
 have aj:¬(b:Int)<n:=oM
 have ab:b=n:=oM;subst ab;have t:Hs (KG w wr i f v G b c (a.map<|Jp top) j g av):=Xa (by
  have:=u.o;rw[<-Uj,<-E.o];exact this)
 go_wp2_with fail
 exact HX _ _ _ _ _ _ rfl t
theorem yi:ET:=by
 intro v G n c r e h q p av w hF u j t x N y;have k:Hs (KG w ((w.alloc<|.cells #[Hp v,Hl G n c] 25).alloc (.cells #[Hp 0,Hq] 25)) e h v G n c r q p av):=Xa (by
  have z:XW w ((w.alloc<|.cells #[Hp v,Hl G n c] 25).alloc (.cells #[Hp 0,Hq] 25)) e e h (λ_=>True):=((XW.box _).trans (XW.box _)).weak λ_ _=>⟨trivial,trivial⟩;refine⟨hF.sp z 0 (λ_ _ _ _ _=>trivial) (bC λ_ _=>trivial),Below.alloc (Below.alloc (Below.refl _ _) j _) (by simp;omega) _,λb d _=>(Below.heap_alloc _ _ _<|by simp;omega).trans (Below.heap_alloc _ _ _ d),t,j,(Bx.new _ _ _).box _,?_⟩;have:=Bx.new (w.alloc<|.cells #[Hp v,Hl G n c] 25) #[Hp 0,Hq] 25;rwa[aO]at this)
 go_in
 have E:((w.alloc<|.cells #[Hp v,Hl G n c] 25).alloc (.cells #[Hp 0,Hq] 25)).cell? (Hk w.heap.size 0)=some (Hp v):=Bx.cell k.box rfl;go_wp2_with fail
 generalize (w.alloc _).alloc _=P at*;refine ND w e h v G n c r q p av ((v:Int)-1) _ _ (by exact Xa λc F O v w s=>s) u x y ?_ _ _ _ _ _ _ (by rfl) k;intro c5 H I J D m g o;obtain⟨K,rfl⟩:=fy D g;simp only[ae,Nat.reduceAdd];have a:=Xa o;have L:=Bx.c a.box 0;have f1:=Bx.c a.box 1;have B:=Bx.c a.res 0;have C:=Bx.c a.res 1;have rz:=Bx.thaw a.res;go_wp2;refine cC (v:=.agg #[Hp v,Hl G n c]) (by simp[results,results71,go_sem,B,C]) rfl ⟨rfl,?_,?_,?_,?_⟩;·exact a.bel.trans<|((Below.refl h m).setCell (p:=Hk (w.heap.size+1) 0) (Nat.le_succ_of_le j) _).setCell (p:=Hk (w.heap.size+1) 1) (Nat.le_succ_of_le j) _
 .have g:=a.fr (w.heap.size+1) (gX _);have A:XW m ((m.setCell (Hk (w.heap.size+1) 0) (Hp v)).setCell (Hk (w.heap.size+1) 1) (Hl G n c)) e e h (λb=>b≠w.heap.size+1):=((XW.put _ _ _).trans (XW.put _ _ _)).weak λ_ d=>⟨d,d⟩;have i:∀b,(e b).1≠0->b≠w.heap.size+1:=λb l f=>l (by rw[f,g]);exact a.fn.sp A 0 (λb l _ _ _=>i b l) (bC λb f=>i b (by rcases f with f|f<;>rw[f]<;>simp))
 .intro b d g;have i:b≠w.heap.size+1:=oM;exact((Below.heap_setCell _ _ _ _ i).trans (Below.heap_setCell _ _ _ _ i)).trans (a.kept b d g)
 intro b d;have M:=a.res.lt;exact a.fr b<|by simp[World.setCell]at d;omega
theorem Cc(hT:Hs tY)(i B:Nat)(s:Sr)(k:Bool)(w:World)(h:Hs (ZQ w i B s)) :
 Calls prog 29 #[Hn i,.bool k] w λe w'=>∃af G n c pv iv av,e=.returned (.agg #[Hp (XM s k).1.values,Hl G n c])/\ZQ w' i B (XM s k).2/\w.grownBy w' (some i)/\ZU w' af w.heap.size (Hl G n c) (XM s k).1.blocks pv iv av/\(∀b,w'.heap.size<=b->af b=(0,0,0))/\n=(XM s k).1.blocks.length/\1<=n/\n<=11/\(∃V:Nat,(XM s k).1.values=(V:Int)/\V<=1000)/\Kg (XM s k).1.blocks/\LT (XM s k).1.blocks:=by
 let⟨i0,ga,gr,gs,gt⟩:=Xq Nx;let⟨j0,gb,gm,gp,gq⟩:=Xq Nv;have fx:Hs (B<=w.heap.size):=Xa h.sB;have a1:=Xa<|h.box (.cells #[Hp 0,Hq] 25);have M:Hs (Bx (w.alloc<|.cells #[Hp 0,Hq] 25) w.heap.size #[Hp 0,Hq] 25):=Xa<|Bx.new _ _ _;have cl:=Xa<|bW w (.cells #[Hp 0,Hq] 25) (some i);have bc:Hs (i<w.heap.size):=Xa<|oP h.bB h.sB;have fz:=a1.src.c3;have gh:=a1.ok.size;clear h
 go_in
 go_wp2_with fail
 generalize w.alloc _=w0 at*;refine(XC i B s (3+s.size) w0 a1 oM oM).mono ?_;rintro e w1⟨rfl,f,j⟩;have a9:=XE s (n:=3+s.size) oM;let⟨r1,s1,r⟩:∃S s',Ax s (3+s.size)=(S,s'):=⟨_,_,rfl⟩;rw[r]at f a9 |-;dsimp only at f a9 |-;obtain⟨az,rfl⟩:=Zv a9.1;have ev:=Xa r;have ch:=Xa f;have ct:=Xa (M.grown j (by have:=bc.o;intro e;injection e;omega));have cm:=Xa<|Y5 cl.o j;clear f j r a1 M cl fz;have hm:az<=9:=oM;clear a9 gh;go_wp2_with fail
 refine(XC i B s1 2 w1 ch oM oM).mono ?_;rintro e w2⟨rfl,f,j⟩;let⟨r2,s2,r⟩:∃S s',Ax s1 2=(S,s'):=⟨_,_,rfl⟩;rw[r]at f |-;dsimp only at f |-;have ey:=Xa r;have cj:=Xa f;have cv:=Xa (ct.grown j (by have:=bc.o;intro e;injection e;omega));have bo:=Xa<|Y5 cm.o j;clear f j r ch ct cm;have ca:(1:Int)+(az:Int)=((az+1:Nat):Int):=oM;let⟨n,hn⟩:∃n,n=az+1:=⟨_,rfl⟩;rw[<-hn]at ca;have ba:1<=n:=oM;have i6:n<=10:=oM;have HN:=Xa hn;clear hn;rw[ca];clear ca;let⟨v,d2⟩:∃v,(r2==0)=v:=⟨_,rfl⟩;have eq:=Xa d2;go_wp2_with fail
 clear d2;refine(BB i B s2 n w2 cj ba oM).mono ?_;rintro e w3⟨ec,rfl,f,j,ho⟩;have Y:=rP n n 0 s2 [];have ay:=rR n n 0 s2 [] rfl oM λjl hj=>absurd hj sP;let⟨d,s3,r⟩:∃S s',JB n n 0 s2 []=(S,s'):=⟨_,_,rfl⟩;rw[r]at f ho Y ay;dsimp only at f ho Y ay;rw[bO,aV]at Y;have ez:=Xa r;have cx:=Xa ay;have cw:=Xa Y;obtain⟨p,c,rfl,ar,f7⟩:=Xm ho oM;have gl:w.heap.size<=w2.heap.size:=bo.size;have cq:Hs (w3.ownsRow w.heap.size 46 6 (Hl p n c) (d.map Yt).length (XF Zz Zz<|d.map Yt)):=Xa (by
  have:=Zk ho (show w.heap.size<=w2.heap.size+2 by omega);rw[bK,Y];exact this)
 have ck:=Xa f;have bt:=Xa (cv.grown j (by have:=bc.o;intro e;injection e;omega));have co:=Xa<|Y5 bo.o j;have cr:Hs (UF<|d.map Yt):=Xa<|ut Y ba oM ay;have HX:Hs (n=(d.map Yt).length):=Xa (by simp[Y]);clear f j r ho Y ay ar f7 gl cj cv bo;go_wp2_with fail
 have bq:=Xa<|cq.alloc (.cells #[Hp 0,Hl p n c] 25);have bm:=Xa<|ck.box (.cells #[Hp 0,Hl p n c] 25);have bv:=Xa<|bt.box (.cells #[Hp 0,Hl p n c] 25);have bn:Hs (Bx (w3.alloc<|.cells #[Hp 0,Hl p n c] 25) w3.heap.size #[Hp 0,Hl p n c] 25):=Xa<|Bx.new _ _ _;have T:=Xa<|Y5 co.o (bW w3 (.cells #[Hp 0,Hl p n c] 25) (some i));have ej:Hs (w.heap.size<w3.heap.size):=Xa bt.lt;clear cq ck bt co;generalize w3.alloc _=w4 at*;generalize w3.heap.size=l at*;have cg:=Xa<|EE bq.o (KD d);refine(AJ 0 (some ⟨p,0,none⟩) n c (d.map Yt) w.heap.size w4.heap.size w4 cg HX (aA _) cr).mono ?_;rintro e w5⟨da,dc,rfl,dk,dn⟩;have cp:=Xa (Ag da n dc ((List.range n).map (Zq (X8<|d.map Yt) n)) w4.heap.size w5.heap.size w5 (Xa<|by rw[jO];exact dn) (Xa sP) oM (aA _) (Xa (λjs P=>by
  obtain⟨b,_,rfl⟩:=aY.1 P;exact⟨aJ (oL n b) oM,λdd ha=>(Jo.1 ha).1⟩)))
 have bl:=Xa dk;clear dk dn cg;go_wp2_with fail
 refine cp.mono ?_;rintro e Q⟨v6,rfl,dl,bb⟩;have dw:(List.range n).map (G9<|(List.range n).map (Zq (X8<|d.map Yt) n))=Ke (d.map Yt):=by unfold Ke;rw[<-HX.o]
 rw[dw]at bb;have K:=Xa<|Xg bl.o dl;have U:Hs (IQ w Q i B s3 l (Hl p n c) (d.map Yt) v6 (Ke<|d.map Yt)):=Xa ⟨bm.keep<|K.mono bm.sB,⟨K.os.trans T.os,K.tape.trans T.tape,K.output.trans T.output,aJ T.size K.size,λb q h2=>(K.block b<|aX q T.size).trans (T.block b q h2)⟩,fx.o,bv.keep<|K.block _ bv.lt,bn.keep<|K.block _ bn.lt,ej.o,rW bq.o K.o,by
  rw[nO,<-HX.o];exact Zk bb<|aJ T.size bl.size,KD d⟩
 obtain⟨gi,ci,rfl⟩:∃p c,v6=Hl p n c:=by
  let⟨g6,c6,e,_⟩:=Xm bb oM;exact⟨_,_,e⟩
 clear bb dw cp dl bl K bq bm bv bn T
 go_upto_if 41 with fail
 go_cut [8,9]from 24 to 61 λc8 _ wx=>∃(g' n' O gx gz:Nat),c8=Hl gx n' gz/\Hs (IQ w wx i B (ZI k n d s3).2.2 l (Hl g' n' O) ((ZI k n d s3).1.map Yt) c8 (ZI k n d s3).2.1)
 case first=>
  cases k with
  |false=>
   go_wp2;go_meet;exact⟨p,n,c,gi,ci,rfl,U⟩
  |true=>
   have aa:Hs (ZI true n d s3=if 1<n then (d++[⟨1,0,1+(Ax s3<|(n:Int)-1).1,0⟩],Ke (d.map Yt)++[0],(Ax s3<|(n:Int)-1).2)else (d++[⟨3,0,0,0⟩],Ke (d.map Yt)++[0],s3)):=Xa rfl;have ao:Hs ((d.map Yt).length=n/\(Ke<|d.map Yt).length=n):=Xa ⟨HX.symm,(nO _).trans HX.symm⟩
   go_upto_if 44 with fail
   have a4:=Xa<|U.box (.cells #[Hp 3,Hp 0,Hp 0,Hp 0] 41);have HT:Hs (UK (Q.alloc<|.cells #[Hp 3,Hp 0,Hp 0,Hp 0] 41) Q.heap.size ⟨3,0,0,0⟩):=Xa<|Bx.new _ _ _;have dj:Hs (w.heap.size<Q.heap.size/\Q.heap.size≠l/\Q.heap.size≠p/\Q.heap.size≠gi/\i≠Q.heap.size):=Xa (by
    have q:=U.res.lt;have h2:=U.fbx.lt;have h3:=(U.bl.lt p rfl).2;have h4:=(U.id.lt gi rfl).2;have h5:=bc.o;omega)
   clear U;generalize Q.alloc _=wt at*;generalize Q.heap.size=tb at*
   go_cut []from 24 to 61 λwx=>∃(tt:Yj)(t:Sr),Hs (ZI true n d s3=(d++[tt],Ke (d.map Yt)++[0],t))/\Hs (IQ w wx i B t l (Hl p n c) (d.map Yt) (Hl gi n ci) (Ke<|d.map Yt))/\Hs (UK wx tb tt)
   case first=>
    by_cases q:1<n
    .rw[aU q]at aa;have fl:(1:Int)<n:=oM;go_wp2_with fail
     refine(XC i B s3 ((n:Int)-1) wt (Xa a4.dr) oM oM).mono ?_;rintro e w7⟨rfl,f,j⟩;have P:=XE s3 (n:=(n:Int)-1) oM;let⟨S,s4,r⟩:∃S s9,Ax s3 ((n:Int)-1)=(S,s9):=⟨_,_,rfl⟩;rw[r]at f aa P |-;dsimp only at f aa P |-;have er:=Xa<|a4.call j f;have bz:Hs (UK w7 tb ⟨3,0,0,0⟩):=Xa (Bx.grown HT.o j λe=>dj.2.2.2.2<|by injection e with e;exact e.symm);clear f j r;let⟨t0,t1,t2,t3⟩:=UK.cells bz.o;have tz:=Bx.thaw bz.o;go_wp2;go_meet;have g:=dj.o;exact⟨_,_,aa,Xa ((((er.put g.1 g.2.1 (λe=>g.2.2.1<|by cases e;rfl) λe=>g.2.2.2.1<|by cases e;rfl).put g.1 g.2.1 (λe=>g.2.2.1<|by cases e;rfl) λe=>g.2.2.2.1<|by cases e;rfl).put g.1 g.2.1 (λe=>g.2.2.1<|by cases e;rfl) λe=>g.2.2.2.1<|by cases e;rfl).put g.1 g.2.1 (λe=>g.2.2.1<|by cases e;rfl) λe=>g.2.2.2.1<|by cases e;rfl),Xa<|UK.put bz.o ⟨1,0,1+S,0⟩⟩
    rw[aM q]at aa;have fl:¬(1:Int)<n:=oM;go_wp2;go_meet;exact⟨_,_,aa,a4,HT⟩
   let⟨tt,t,HE,L,al⟩:=hcut;clear a4 HT aa;let⟨t0,t1,t2,t3⟩:=UK.cells al.o;have f1:=Bx.c L.fbx 1;have jc:=L.gr.size;go_wp2_with (at_builtin;refine bT _ rfl _ _ 23 rfl w.heap.size 46 i0 (.agg #[Hq,Hq,Hp 0,Hp 0,Hp 0,Hp 0]) 6 80 underlying23 ga gr gs gt rfl vZ _ (d.map Yt).length (XF Zz Zz<|d.map Yt) rfl (L.bl.alloc _) (Hk wc.heap.size 0) 1 1 [Hq,Hq,Hp tt.kind,Hp tt.a,Hp tt.to,Hp tt.els] rfl rfl (World.news_of_block<|World.alloc_heap_new _ _) ?c2 ?c3 ?c4 ?c5 ?_)
   case c2=>intro hw hu;simp at hu;rcases hu with rfl|rfl|rfl|rfl|rfl<;>rfl
   case c3=>unfold maxLen;have:=ao.o;omega
   case c4=>have:=ao.o;omega
   case c5=>simp;omega
   intro v8 w8 cb ds gf fr;let⟨aq,d3⟩:=(L.box _).pushB ds cb sP;have br:=Xa d3;obtain⟨g8,c8,rfl,ar,b8⟩:=Xm cb oM;clear ar b8 gf fr cb ds d3 f1;have k0:=Bx.c aq 0;have k1:=Bx.c aq 1;have kz:=Bx.thaw aq;have hy:=Xa aq;clear aq;have gv:=br.gr.size;rw[Xd]at gv;go_wp2_with (at_builtin;refine bT _ rfl _ _ 27 rfl w.heap.size 2 j0 (Hp 0) 1 8 underlying27 gb gm gp gq rfl vZ _ (Ke<|d.map Yt).length (Xt<|Ke (d.map Yt)) rfl (br.id.alloc _) (Hk w8.heap.size 0) 1 1 [Hp 0] rfl rfl ?c1 ?c2 ?c3 ?c4 ?c5 ?_)
   case c1=>
    have:=Yf (w8.setCell (Hk l 1) (Hl g8 (d.length+1) c8)) (Hp 0) 2;rw[Xd]at this;exact this
   case c2=>intro hw hu;simp at hu;subst hu;rfl
   case c3=>unfold maxLen;have:=ao.o;omega
   case c4=>have:=ao.o;omega
   case c5=>simp;omega
   intro v9 w9 cc du gg fs;have es:=Xa<|(br.box _).pushI du cc rfl;have gc:(Ke<|d.map Yt).length+1=d.length+1:=by have:=ao.o;simp at this;omega
   obtain⟨g9,c9,rfl,ar,b8⟩:=Xm cc oM;clear ar b8 gg fs cc du;go_wp2;go_meet;rw[HE.o];rw[gc]at*;refine⟨g8,_,c8,g9,c9,rfl,?_⟩;dsimp only;rw[bG];exact es
 obtain⟨G,N,O,a6,a5,rfl,L⟩:=hcut;clear U;have Z:=Xa<|CD (dead:=k) (s:=s3) cw.o ba oM cx.o;have aj:=Xa<|AI (A9 (dead:=k) (s:=s3) cw.o ba cx.o);have ek:Hs (ZI k n d s3=ZI k n d s3):=Xa rfl;generalize hD:ZI k n d s3=eg at L Z aj;have ei:=Xa hD;clear hD ek;let⟨ac,m,t⟩:=eg;dsimp only at L Z aj;have ad:Hs (ac.length=N/\m.length=N):=Xa (by
  have q:=L.bl;have:(ac.map Yt).length=N:=by
   rcases q.2 with⟨e,_⟩|⟨_,_,_,e,_⟩;·cases e
   cases e;rfl
  have h2:=Z.1;rw[bK]at this;exact⟨this,h2.trans this⟩)
 have ap:N<=11:=oP Z.o ad.o;have di:1<=N:=oP Z.o ad.o;have el:Hs (∀b,0<b->b<N->∃c:Nat,m.getD b 0=(c:Int)/\c<b):=Xa λb q h2=>Z.2.2.2 b q<|oN ad.o;let⟨j1,d0⟩:=L.start;have bi:Hs (LQ w (wc.alloc<|.cells #[] 69) i B ⟨ac.map Yt,[],0,t⟩ l G O (Hl wc.heap.size 0 0) (Hl a6 N a5) m):=Xa ⟨_,_,_,_,_,d0⟩;have db:Hs ((ac.map Yt).length=N):=Xa (by have:=ad.o;simpa using this.1);clear d0 L Z cr HX;go_wp2_with fail
 generalize ea:ac.map Yt=J at*;have b4:=Xa ea;clear ea;generalize wc.alloc _=wl at*;generalize wc.heap.size=eb at*;have a2:Hs (jg s k=((ZL (Zm v m N 0 ⟨J,[],0,t⟩).ends N 0 (Zm v m N 0 ⟨J,[],0,t⟩).xs (Zm v m N 0 ⟨J,[],0,t⟩).s).1,(Zm v m N 0 ⟨J,[],0,t⟩).v,(ZL (Zm v m N 0 ⟨J,[],0,t⟩).ends N 0 (Zm v m N 0 ⟨J,[],0,t⟩).xs (Zm v m N 0 ⟨J,[],0,t⟩).s).2)):=Xa (by
  unfold jg;rw[ev.o];dsimp only;rw[ey.o,dM,<-HN.o];dsimp only;rw[ez.o];dsimp only;rw[ei.o,eq.o];dsimp only;rw[ad.1,b4.o])
 have ep:Hs (∀x∈J,x.is.length<=1000):=Xa (by
  rw[<-b4.o];intro x g;rw[(KD ac x g).2];simp)
 have e6:Hs (Jb t):=Xa (by let⟨_,_,_,_,_,hq⟩:=bi.o;exact hq.dr.ok);have eu:Hs (∀x∈J,x.ps.length<=1000/\∀bf∈x.ps,bf.args=[]):=Xa (by
  rw[<-b4.o];intro x g;have:=KD ac x g;rw[this.1];exact⟨sP,λbf hp=>absurd hp sP⟩)
 refine NS w i B l G O a6 N a5 m v ⟨J,[],0,t⟩ _ _ _ _ _ _ (by exact Xa λc dd hv ec w h=>h) ap (Xa ad.2) el ?_ _ _ _ _ _ _ _ _ _ _ _ _ _ _ _ (by rfl) (Xa ⟨rfl,rfl,db.o⟩) bi;intro a ve h9 ia ib ic ih il im ir i1 i2 i3 i4 tl w7 P ax b7 hA;obtain⟨fi,rfl⟩:=LO tl P;simp only[ae,Nat.reduceAdd];clear P bi;have a3:Hs (∀x∈a.xs,x.ps.length<=1000/\∀bf∈x.ps,bf.args=[]):=Xa (by rw[ax];exact pJ v m N 0 _ eu.o);have em:Hs (∀x∈a.xs,x.is.length<=1000):=Xa (by rw[ax];exact qn v m N 0 _ e6.o ep.o);have b1:Hs (LZ a.xs/\LP a.xs):=Xa (by rw[ax];exact qh v m N 0 _ (by show 0+N=J.length;rw[db.o];omega) aj.1 aj.2);rw[<-ax]at a2;have R:=Xa b7;let⟨g4,hh,g1,e9,fe,b6⟩:=hA;let⟨ge,ce,d5⟩:=b6.es.got oM;rw[b7.1]at d5;subst d5;have cf:Hs (LQ w w7 i B ⟨a.xs,a.ends,a.v,a.s⟩ l G O (Hl ge N ce) (Hl a6 N a5) m):=Xa ⟨g4,hh,g1,e9,fe,b6⟩;clear b6 b7 ax;go_wp2_with fail
 refine M2 w i B l a.v G O a.xs ge N ce a.ends (Hl a6 N a5) m N a.s _ _ _ _ _ _ _ _ _ _ _ _ _ _ _ _ _ (by exact Xa λc dd hv ec w h=>h) (Xa ⟨R.2.1,R.1,rfl⟩) ap a3 (Xa λe he=>by have:=R.2.2.2 e he;omega) ?_ _ _ _ _ _ (by rfl) cf;intro s8 h6 h7 h8 tl w8 P d4 fq;obtain⟨fi,rfl⟩:=LO tl P;simp only[ae,Nat.reduceAdd];clear P cf;have a0:Hs (iu (ZL a.ends N 0 a.xs a.s).1):=Xa (sh a.ends N 0 a.xs a.s (oN R.o) (λ_ _ h=>absurd h oM) λaz hm _=>(a3.o _<|aH hm).2);have A:Hs ((ZL a.ends N 0 a.xs a.s).1.length=N):=Xa<|(qL _ _ _ _ _).trans R.2.1;have bw:Hs (Kg (ZL a.ends N 0 a.xs a.s).1):=Xa (Ed a0.o (oN A.o) (qO a.ends N 0 a.xs a.s 1000 (oN R.o) λx g=>⟨(a3.o x g).1,em.o x g⟩));have b3:Hs (LZ (ZL a.ends N 0 a.xs a.s).1/\LP (ZL a.ends N 0 a.xs a.s).1):=Xa<|qX a.ends N 0 a.xs a.s (oN R.o) b1.1 b1.2;clear b1 aj;have ja:a.v<=154:=oN R.o;rw[<-d4]at a2;generalize (ZL a.ends N 0 a.xs a.s).1=o at*;generalize a.v=V at*;let⟨g5,hi,g2,fa,i5,df⟩:=fq;have b0:=Xa df.toT;clear df d4 a3 R;have bp:Hs (XM s k=(⟨(V:Int),if (Ax (Ax s8 3).2 3).1=0 then Tm V (if (Ax s8 3).1=0 then Zh o else o)else (if (Ax s8 3).1=0 then Zh o else o)⟩,(Ax (Ax s8 3).2 3).2)):=Xa (by unfold XM;rw[a2.o]);clear a2;go_wp2_with fail
 refine(XC i B s8 3 w8 (Xa b0.dr) oM oM).mono ?_;rintro e w9⟨rfl,f,j⟩;have E:=Xa<|b0.call j f;clear f j b0;generalize Ax s8 3=P9 at*;let⟨I,s9⟩:=P9;dsimp only at E bp |-
 go_upto_if 266 with fail
 go_cut []from 203 to 274 λwz=>∃af D c2 pv iv av,Hs<|Iu w wz af i B s9 l V D c2 (if I=0 then Zh o else o) pv iv av
 case first=>
  by_cases u:I=0
  .have cd:(I==0)=true:=by simpa using u
   have f0:=Bx.c E.fbx 0;have f1:w9.cell? (Hk l 1)=some (Hl G N O):=by rw[<-A.o];exact Bx.cell E.fbx rfl
   have M:=Xa u;clear u;go_wp2_with fail
   have ab:=E.fn;rw[A.o]at ab;refine(hT.o V G N O o g5 w.heap.size hi g2 fa w9 (Xa ab) (Xa A.symm) E.gr.size (Xa E.fr) a0 bw (Xa b3.1) di ap).mono ?_;rintro e ed⟨jv,G',c2,j2,jj,hz,rfl,F,X,h0,d1⟩;have cz:=Xa (E.turned F (by rw[A.o];exact X) h0 d1);have a7:Bx ed l #[Hp V,Hl G o.length O] 25:=E.fbx.keep<|F.block _ E.fbx.lt;have k0:=Bx.c a7 0;have k1:ed.cell? (Hk l 1)=some (Hl G N O):=by rw[<-A.o];exact Bx.cell a7 rfl
   have kz:=Bx.thaw a7;clear F X h0 d1 a7 f0 f1 ab;rw[A.o]at cz;go_wp2;go_meet;rw[aU M.o];exact⟨_,_,_,_,_,_,cz⟩
  have cd:(I==0)=false:=by simpa using u
  have M:=Xa u;clear u;go_wp2;go_meet;rw[aM M.o];exact⟨_,_,_,_,_,_,E⟩
 let⟨g7,D,c2,hs,g3,fc,al⟩:=hcut;clear E;have W:Hs ((if I=0 then Zh o else o).length=N):=Xa (by by_cases h:I=0;(rw[aU h,mi];exact A.o);(rw[aM h];exact A.o));have bx:Hs (Kg<|if I=0 then Zh o else o):=Xa (by by_cases h:I=0;(rw[aU h];exact As (oN A.o) (oN A.o) bw.o);(rw[aM h];exact bw.o));have cs:Hs (LT<|if I=0 then Zh o else o):=Xa (by by_cases h:I=0;(rw[aU h];exact An b3.2);(rw[aM h];exact Eb a0.o b3.2));generalize (if I=0 then Zh o else o)=C at*;clear A a0;go_wp2_with fail
 refine(XC i B s9 3 wc (Xa al.dr) oM oM).mono ?_;rintro e ee⟨rfl,f,j⟩;have y:=Xa<|al.call j f;clear f j al;generalize Ax s9 3=e7 at*;let⟨H,ht⟩:=e7;dsimp only at y bp |-
 go_upto_if 271 with fail
 go_cut []from 203 to 274 λwz=>∃af pv iv av,Hs<|Iu w wz af i B ht l V D c2 (if H=0 then Tm V C else C) pv iv av
 case first=>
  by_cases u:H=0
  .have cd:(H==0)=true:=by simpa using u
   have f0:=Bx.c y.fbx 0;have f1:ee.cell? (Hk l 1)=some (Hl D N c2):=by rw[<-W.o];exact Bx.cell y.fbx rfl
   have M:=Xa u;clear u;go_wp2_with fail
   have ab:=y.fn;rw[W.o]at ab;refine(yi V D N c2 C g7 w.heap.size hs g3 fc ee (Xa ab) (Xa W.symm) y.gr.size (Xa y.fr) ap oM bx).mono ?_;rintro e ef⟨rfl,F,X,hk,h0⟩;have c7:=Xa (y.renamed F (by rw[W.o];exact X) hk h0);have a8:Bx ef l #[Hp V,Hl D C.length c2] 25:=y.fbx.keep<|hk _ y.fbx.lt y.fbl;have k0:=Bx.c a8 0;have k1:ef.cell? (Hk l 1)=some (Hl D N c2):=by rw[<-W.o];exact Bx.cell a8 rfl
   have kz:=Bx.thaw a8;clear F X h0 hk a8 f0 f1 ab;rw[W.o]at c7;go_wp2;go_meet;rw[aU M.o];exact⟨_,_,_,_,c7⟩
  have cd:(H==0)=false:=by simpa using u
  have M:=Xa u;clear u;go_wp2;go_meet;rw[aM M.o];exact⟨_,_,_,_,y⟩
 let⟨bd,hc,g0,e8,z⟩:=hcut;clear y;have b5:Hs ((if H=0 then Tm V C else C).length=N):=Xa (by by_cases h:H=0;(rw[aU h,m6];exact W.o);(rw[aM h];exact W.o));have e0:Hs (Kg<|if H=0 then Tm V C else C):=Xa (by by_cases h:H=0;(rw[aU h];exact CE bx.o);(rw[aM h];exact bx.o));have et:Hs (LT<|if H=0 then Tm V C else C):=Xa (by by_cases h:H=0;(rw[aU h];exact Dc cs.o);(rw[aM h];exact cs.o));generalize (if H=0 then Tm V C else C)=us at*;have f0:=Bx.c z.fbx 0;have f1:wc.cell? (Hk l 1)=some (Hl D N c2):=by rw[<-b5.o];exact Bx.cell z.fbx rfl
 have r0:=Bx.c z.res 0;have r1:=Bx.c z.res 1;have rz:=Bx.thaw z.res;go_wp2;rw[bp.o];refine cC (v:=.agg #[Hp V,Hl D N c2]) (by simp[results,results29,go_sem,r0,r1]) rfl ⟨bd,D,N,c2,hc,g0,e8,rfl,?_,?_,?_,?_,?_,di,ap,⟨V,rfl,oM⟩,e0.o,et.o⟩;·exact(z.dr.put z.bw).put z.bw
 .exact XS (XS z.gr<|aA _) (aA _)
 .have k1:XW wc ((wc.setCell (Hk w.heap.size 0) (Hp V)).setCell (Hk w.heap.size 1) (Hl D N c2)) bd bd w.heap.size (λb=>b≠w.heap.size):=((XW.put _ _ _).trans (XW.put _ _ _)).weak λ_ F=>⟨F,F⟩;have nb:∀b,(bd b).1≠0->b≠w.heap.size:=λb q e=>q (by rw[e,z.resl]);have X:=z.fn;rw[b5.o]at X;exact X.sp k1 0 (λb q _ _ _=>nb b q) (bC λb e=>nb b (by rcases e with e|e<;>rw[e]<;>simp))
 .intro b F;exact z.fr b<|by simpa [World.setCell]using F
 exact b5.symm
end Go.Proofs.YtffcajcgkblkoaaGreatDoor
