import Derived.Test.YtffcajcgkblkoaaGreatDoorDL1
namespace Go.Proofs.YtffcajcgkblkoaaGreatDoor
set_option maxHeartbeats 8000000
set_option maxRecDepth 100000
open Go.RowKit Go.Proofs.Tryz
variable{l:List Int}{x X:List Xe}{n m k B g c:Nat}{a A:Value}{w v:World}
noncomputable def ZI(b:Bool)(n:Nat)(a:List Yj)(s:Sr):List Yj×List Int×Sr :=
 if b=true then
  if 1<n then (a++[⟨1,0,1+(Ax s<|(n:Int)-1).1,0⟩],Ke (a.map Yt)++[0],(Ax s<|(n:Int)-1).2)
  else (a++[⟨3,0,0,0⟩],Ke (a.map Yt)++[0],s)
 else (a,Ke<|a.map Yt,s)
theorem CD{dead:Bool}{a:List Yj}{s:Sr}(d:a.length=n)(f:1<=n)(i:n<=1000)(h:∀j (h:j<a.length),fd n j a[j]):(ZI dead n a s).2.1.length=(ZI dead n a s).1.length/\(ZI dead n a s).1.length<=n+1/\n<=(ZI dead n a s).1.length/\∀b,0<b->b<(ZI dead n a s).1.length->∃c:Nat,(ZI dead n a s).2.1.getD b 0=(c:Int)/\c<b:=by
 have e:(Ke<|a.map Yt).length=n:=(nO _).trans (by simpa using d);have k:∀t:Yj,∀b,0<b->b<(a++[t]).length->∃c:Nat,(Ke (a.map Yt)++[0]).getD b 0=(c:Int)/\c<b:=λt b g p=>by
  by_cases l:b<n
  .let⟨c,e1,e2⟩:=t9 d f i h g l;exact⟨c,by rw[<-e1];simp[List.getD,dL (by omega:b<(Ke<|a.map Yt).length)],e2⟩
  refine⟨0,?_,g⟩;simp at p;have:b=(Ke<|a.map Yt).length:=oM;subst this;simp
 unfold ZI;split
 .split;·refine⟨by simp[e,d],by simp[d],by simp[d],k _⟩
  refine⟨by simp[e,d],by simp[d],by simp[d],k _⟩
 exact⟨e.trans d.symm,by show a.length<=n+1;omega,by show n<=a.length;omega,λb m o=>t9 d f i h m (by have q:b<a.length:=o;omega)⟩
theorem EE(h:w.ownsRow n 46 6 (Hl m k c) x.length (XF Zz Zz x))(d:∀g∈x,g.ps=[]/\g.is=[]):Xp w n w.heap.size (some ⟨m,0,none⟩) x:=by
 have:ZU w (λ_=>(1,0,0)) n (Hl m k c) x Zz Zz (λ_=>Zz):=by
  refine⟨⟨h,λ_ _=>rfl⟩,λi a=>?_,λi a=>?_,λi a j f=>?_⟩
  .rw[(d _<|aH a).1];exact⟨dA _ _ _ _,λb e=>by cases e⟩
  .rw[(d _<|aH a).2];exact⟨dA _ _ _ _,λb e=>by cases e⟩
  rw[(d _<|aH a).1]at f;exact absurd f sP
 exact this.at_
theorem KD(b:List Yj):∀x∈b.map Yt,x.ps=[]/\x.is=[]:=λx a=>by
 obtain⟨t,_,rfl⟩:=aY.1 a;exact⟨rfl,rfl⟩
theorem IQ.call{wr:World}{s b:Sr}(h:IQ w wr n m s k a x A l)(g:wr.grownBy v (some n))(d:ZQ v n m b):IQ w v n m b k a x A l:=by
 have c:=h.bw;have i:=h.dr.bB;have f:=h.fbb;exact⟨d,Y5 h.gr g,c,h.res.grown g (by intro e;injection e;omega),h.fbx.grown g (by intro e;injection e;omega),f,TW h.bl g oM,TW h.id g oM,h.emp⟩
theorem IQ.box{wr:World}{s:Sr}(h:IQ w wr n m s k a x A l)(o:Obj):IQ w (wr.alloc o) n m s k a x A l :=
 ⟨h.dr.box o,Y5 h.gr<|bW _ _ _,h.bw,h.res.box o,h.fbx.box o,h.fbb,h.bl.alloc o,h.id.alloc o,h.emp⟩
theorem IQ.put{wr:World}{s:Sr}{u:Value}(h:IQ w wr n m s k a x A l)(d:w.heap.size<B)(hF:B≠k)(b:a.ownBlock≠some B)(c:A.ownBlock≠some B):IQ w (wr.setCell ⟨B,g,none⟩ u) n m s k a x A l:=by
 have e:=h.bw;exact⟨h.dr.put oM,XS h.gr oM,h.bw,h.res.other oM,h.fbx.other<|kA hF,h.fbb,fS h.bl b u,fS h.id c u,h.emp⟩
theorem IQ.low{wr:World}{s:Sr}(h:IQ w wr n m s k a x A l)(c:Below w.heap.size wr v):ZQ v n m s/\w.grownBy v (some n) :=
 ⟨h.dr.keep<|c.mono h.bw,⟨c.os.trans h.gr.os,c.tape.trans h.gr.tape,c.output.trans h.gr.output,aJ h.gr.size c.size,λb d e=>(c.block b d).trans (h.gr.block b d e)⟩⟩
theorem IQ.pushB{wr:World}{s:Sr}{j:Value}{t:Yj}(h:IQ w wr n m s k a x j l)(d:wr.grownBy v a.ownBlock)(f:v.ownsRow w.heap.size 46 6 A B (XF Zz Zz x++[.slice none 0 0,.slice none 0 0,.int .i64 t.kind,.int .i64 t.a,.int .i64 t.to,.int .i64 t.els]))(q:B=x.length+1) :
 Bx v k #[.int .i64 0,a] 25/\IQ w (v.setCell ⟨k,1,none⟩ A) n m s k A (x++[Yt t]) j l:=by
 have p:=h.bw;have i:=h.low<|Xy (Below.refl _ _) d h.bl (aA _) h.gr.size;have o:=h.res.grown d λe=>Z5 h.bl h.res vZ e.symm;have hF:=h.fbx.grown d λe=>Z5 h.bl h.fbx vZ e.symm;have g:=Zl h.id λb e=>d.block b (h.id.lt b e).2 λe2=>VT h.bl h.id vZ e2.symm e;refine⟨hF,i.1.put<|oN h.fbb,XS i.2<|dU h.fbb,p,o.other<|oN h.fbb,?_,h.fbb,?_,fS g (Z5 g hF vZ) A,λr c=>?_⟩
 .have:=hF.set 1 A;simpa using this
 .subst q;unfold XF at f |-;rw[aQ,Zo];exact fS f (Z5 f hF vZ) A
 rcases bU.1 c with c|c;·exact h.emp r c
 simp only[cH,eA,lL]at c;subst c;exact⟨rfl,rfl⟩
theorem IQ.pushI{wr:World}{s:Sr}{f:Value}{x:Int}(h:IQ w wr n m s k a X f l)(c:wr.grownBy v f.ownBlock)(i:v.ownsRow w.heap.size 2 1 A B (Xt l++[Hp x]))(g:B=l.length+1) :
 IQ w v n m s k a X A (l++[x]):=by
 have d:=h.low<|Xy (Below.refl _ _) c h.id (aA _) h.gr.size;refine⟨d.1,d.2,h.bw,h.res.grown c λe=>Z5 h.id h.res vZ e.symm,h.fbx.grown c λe=>Z5 h.id h.fbx vZ e.symm,h.fbb,Zl h.bl λb e=>c.block b (h.bl.lt b e).2 λe2=>VT h.bl h.id vZ e e2.symm,?_,h.emp⟩;subst g;rw[aQ];have e:Xt (l++[x])=Xt l++[Hp x]:=by simp[Xt]
 rw[e];exact i
section
variable {w wr w': World} {lab lab': Nat -> Nat×Nat×Nat} {base: Nat}
def Xe.setPhi(x:Xe)(j:Nat)(p:Ph):Xe:=⟨x.ps.set j p,x.is,x.te⟩
theorem Xj{T:Type}(a:List T)(i:Nat)(x:T)(h:i<(a.set i x).length):(a.set i x)[i]=x:=cQ h
theorem ZU.pushArg{J:Value}{a:List Xe}{l m:Nat->Value}{av:Nat->Nat->Value}(h:ZU w lab base J a l m av)(R:∀b,w.heap.size<=b->lab b=(0,0,0)){i j g D c E:Nat}(n:i<a.length)(v:j<a[i].ps.length)(C:l i=.slice (some ⟨g,0,none⟩) D c){f:Value}{x:Int}(S:w.grownBy w' (av i j).ownBlock)(Z:w'.ownsRow base 2 1 f E (Xt a[i].ps[j].args++[.int .i64 x]))(W:E=a[i].ps[j].args.length+1)(P:f.ownBlock=(av i j).ownBlock\/f.ownBlock=some w.heap.size) :
 ∃lab',ZU (w'.setCell ⟨g,j*2+1,none⟩ f) lab' base J (a.set i<|a[i].setPhi j ⟨a[i].ps[j].dst,a[i].ps[j].args++[x]⟩) l m (λd b=>if d=i/\b=j then f else av d b)/\XW w (w'.setCell ⟨g,j*2+1,none⟩ f) lab lab' base (λb=>lab b≠(4,i,j)/\lab b≠(2,i,0))/\w'.cell? ⟨g,j*2+1,none⟩=some (av i j)/\(∀A,w'.frozen? ⟨g,A,none⟩=false):=by
 let⟨lab',s,y⟩:=(h.args i n j v).grow S Z P R;have p:=h.ps i n;rw[C]at p;have Y:a[i].ps.length=D:=by
  rcases p.own.2 with⟨e,_⟩|⟨_,_,_,e,_⟩;·cases e
  cases e;rfl
 subst Y;have T:=p.blk.2;have q:=p.sp y (λb e=>by rw[e];simp);have U:=q.blk.2;have z:XW w' (w'.setCell (Hk g<|j*2+1) f) lab' lab' base (λb=>b≠g):=XW.put _ _ _;have F:∀b,lab' b≠(2,i,0)->b≠g:=λb k e=>k (by rw[e];exact U);have keep:∀{L:Nat×Nat×Nat}{H G:Nat}{I:Value}{t:Nat}{B:List Value},Xv w lab L base H G I t B->L≠(4,i,j)->L≠(2,i,0)->Xv (w'.setCell (Hk g<|j*2+1) f) lab' L base H G I t B:=λs u N=>(s.sp y λb e=>by rw[e];exact u).sp z (λb e=>F b<|by rw[e];exact N);refine⟨lab',⟨?_,λd ha=>?_,λd ha=>?_,λd ha b k=>?_⟩,?_,?_,λA=>q.thaw A⟩
 .have e:XF l m (a.set i<|a[i].setPhi j ⟨a[i].ps[j].dst,a[i].ps[j].args++[x]⟩)=XF l m a:=by
   unfold XF;refine iG λr=>?_;have hl:=Zn (f:=λi (x:Xe)=>UT (l i) (m i) x.te) (sz:=6) (λ_ _=>rfl) 0 a;have V:=Zn (f:=λi (x:Xe)=>UT (l i) (m i) x.te) (sz:=6) (λ_ _=>rfl) 0 (a.set i<|a[i].setPhi j ⟨a[i].ps[j].dst,a[i].ps[j].args++[x]⟩);rw[bL]at V;by_cases s:r<a.length*6
   .have hq:r/6<a.length:=oM;have aa:r/6<(a.set i<|a[i].setPhi j ⟨a[i].ps[j].dst,a[i].ps[j].args++[x]⟩).length:=by simpa using hq
    have K:r=r/6*6+r%6:=oM;have o:r%6<6:=dS _ vZ;rw[K,Xz (sz:=6) (λ_ _=>rfl) 0 _ _ aa _ o,Xz (sz:=6) (λ_ _=>rfl) 0 a _ hq _ o];by_cases e:i=r/6
    .subst e;rw[Xj];rfl
    rw[bI e]
   rw[dK oM,dK oM]
  rw[e,bL];exact keep h.blks sP sP
 .by_cases e:d=i
  .subst e
   simp only[Xj];rw[C];show Xv _ lab' (2,d,0) base 106 2 _ (a[d].ps.set j _).length (Yh _<|a[d].ps.set j _);rw[bL];have M:Yh (λb=>if True/\b=j then f else av d b) (a[d].ps.set j ⟨a[d].ps[j].dst,a[d].ps[j].args++[x]⟩)=(Yh (av d) a[d].ps).set (j*2+1) f:=by
    unfold Yh;refine Yr (sz:=2) (λ_ _=>rfl) 0 a[d].ps j v _ 1 f vZ ?_ λt o X=>?_
    .rw[aV];dsimp only;rw[aU ⟨trivial,rfl⟩];rfl
    rw[aV];dsimp only;rw[aM λh=>X h.2]
   rw[M];exact q.set _ _
  rw[bI λe2=>e e2.symm];have O:d<a.length:=by simpa using ha
  have e2:Yh (λb=>if d=i/\b=j then f else av d b) a[d].ps=Yh (av d) a[d].ps:=by
   unfold Yh;exact ZF 0 _ λt o=>by dsimp only;rw[aM λh=>e h.1]
  rw[e2];exact keep (h.ps d O) sP (by simp;exact e)
 .by_cases e:d=i
  .subst e;simp only[Xj];exact keep (h.ins d n) sP sP
  rw[bI λe2=>e e2.symm];exact keep (h.ins d<|by simpa using ha) sP sP
 .by_cases e:d=i
  .subst e;simp only[Xj]at k |-;have Q:b<a[d].ps.length:=by simpa [Xe.setPhi]using k
   by_cases e2:b=j
   .subst e2;simp only[Xe.setPhi,Xj];rw[aU ⟨trivial,trivial⟩];subst W;have e3:Xt (a[d].ps[b].args++[x])=Xt a[d].ps[b].args++[Hp x]:=by simp[Xt]
    rw[e3,aQ];exact s.sp z λb e=>F b<|by rw[e];simp
   simp only[Xe.setPhi,bI λe3=>e2 e3.symm];rw[aM λh=>e2 h.2];exact keep (h.args d n b Q) (by simp;exact e2) sP
  simp only[bI λe2=>e e2.symm]at k |-;rw[aM λh=>e h.1];exact keep (h.args d (by simpa using ha) b k) (by simp;intro u;exact absurd u e) sP
 .exact(y.trans z).weak λb k=>⟨k.1,λe=>k.2<|by rw[e];exact T⟩
 refine q.cell ?_;unfold Yh;rw[Xz (sz:=2) (λ_ _=>rfl) 0 _ j v 1 vZ,aV];rfl
end
section
variable {w wr w': World} {lab lab': Nat -> Nat×Nat×Nat} {sb B: Nat} {s s': Sr} {fb vals G c: Nat} {xs: List Xe} {pv iv: Nat -> Value} {av: Nat -> Nat -> Value} {ve: Value} {ev: Nat -> Value} {ends: List (List Int)} {vi: Value} {ids: List Int}
def I2(w wr:World)(lab:Nat->Nat×Nat×Nat)(d:Option Addr)(a:List Int):Prop:=∀q (h:q<a.length),∃b o,d=some ⟨b,o,none⟩/\lab b=(0,0,0)/\(w.heap.size<=b/\b<wr.heap.size)/\wr.cell? ⟨b,o+q,none⟩=some (.int .i64 a[q])
theorem I2.sp{e:Option Addr}{f:List Int}{ok:Nat->Prop}(h:I2 w wr lab e f)(k:XW wr w' lab lab' w.heap.size ok)(j:∀b,lab b=(0,0,0)->b<wr.heap.size->ok b):I2 w w' lab' e f:=λq hq=>by
 let⟨b,o,g,d,a,i⟩:=h q hq;have:=k.same b a.1 a.2<|j b d a.2;exact⟨b,o,g,this.2.trans d,⟨a.1,aX a.2 k.size⟩,(Xc this.1).trans i⟩
theorem JU.belowF(h:JU w wr lab sb B s fb vals G c xs pv iv av ve ev ends vi ids)(k:Below wr.heap.size wr w'):JU w w' lab sb B s fb vals G c xs pv iv av ve ev ends vi ids :=
 h.call ⟨k.os,k.tape,k.output,k.size,λb a _=>k.block b a⟩ (h.dr.keep<|k.mono h.dr.sB)
theorem I2.start{d:Option Addr}{e:List Int}(h:JU w wr lab sb B s fb vals G c xs pv iv av ve ev ends vi ids)(i:Xf w' wr.heap.size w'.heap.size d e):I2 w w' lab d e:=λq hq=>by
 let⟨b,o,f,a,g⟩:=i q hq;exact⟨b,o,f,h.fr b a.1,⟨aJ h.gr.size a.1,a.2⟩,g⟩
theorem JU.facts{i j g l f k o p d:Nat}(h:JU w wr lab sb B s fb vals G c xs pv iv av ve ev ends vi ids)(m:i<xs.length)(t:j<xs[i].ps.length)(n:pv i=.slice (some ⟨g,0,none⟩) f k)(r:ve=.slice (some ⟨l,0,none⟩) o p)(q:d<ends.length) :
 wr.cell? ⟨fb,1,none⟩=some (.slice (some ⟨G,0,none⟩) xs.length c)/\wr.cell? ⟨G,i*6,none⟩=some (.slice (some ⟨g,0,none⟩) f k)/\wr.cell? ⟨g,j*2+1,none⟩=some (av i j)/\wr.cell? ⟨l,d,none⟩=some (ev d):=by
 have b:=h.fn.ps i m;rw[n]at b;have v:xs[i].ps.length=f:=by
  rcases b.own.2 with⟨e,_⟩|⟨_,_,_,e,_⟩;·cases e
  cases e;rfl
 subst v;have a:=h.es;rw[r]at a;have u:ends.length=o:=by
  rcases a.own.2 with⟨e,_⟩|⟨_,_,_,e,_⟩;·cases e
  cases e;rfl
 subst u;refine⟨Bx.cell h.fbx rfl,h.fn.blks.cell ?_,b.cell ?_,a.cell ?_⟩
 .unfold XF;have:=Xz (f:=λi (x:Xe)=>UT (pv i) (iv i) x.te) (sz:=6) (λ_ _=>rfl) 0 xs i m 0 vZ;rw[fW,aV]at this;rw[this,<-n];rfl
 .unfold Yh;rw[Xz (sz:=2) (λ_ _=>rfl) 0 _ j t 1 vZ,aV];rfl
 have:=Xz (f:=λi (_:List Int)=>[ev i]) (sz:=1) (λ_ _=>rfl) 0 ends d q 0 vZ;rw[iN,fW,aV]at this;rw[this];rfl
theorem JU.pushArg{i j g F r q:Nat}(h:JU w wr lab sb B s fb vals G c xs pv iv av ve ev ends vi ids)(f:i<xs.length)(n:j<xs[i].ps.length)(p:pv i=.slice (some ⟨g,0,none⟩) F r){a:Value}{x:Int}(m:wr.grownBy w' (av i j).ownBlock)(C:w'.ownsRow w.heap.size 2 1 a q (Xt xs[i].ps[j].args++[.int .i64 x]))(A:q=xs[i].ps[j].args.length+1)(t:a.ownBlock=(av i j).ownBlock\/a.ownBlock=some wr.heap.size) :
 (w'.cell? ⟨g,j*2+1,none⟩=some (av i j)/\(∀H,w'.frozen? ⟨g,H,none⟩=false))/\∃lab',JU w (w'.setCell ⟨g,j*2+1,none⟩ a) lab' sb B s fb vals G c (xs.set i<|xs[i].setPhi j ⟨xs[i].ps[j].dst,xs[i].ps[j].args++[x]⟩) pv iv (λl b=>if l=i/\b=j then a else av l b) ve ev ends vi ids/\XW wr (w'.setCell ⟨g,j*2+1,none⟩ a) lab lab' w.heap.size (λb=>lab b≠(4,i,j)/\lab b≠(2,i,0)):=by
 let⟨lab',v,k,u,D⟩:=h.fn.pushArg h.fr f n p m C A t;have d:∀b,lab b=(0,0,0)->lab b≠(4,i,j)/\lab b≠(2,i,0):=λb e=>by rw[e];simp
 have y:w.heap.size<=g:=by
  have:=h.fn.ps i f;rw[p]at this;exact(this.own.lt g rfl).1
 have o:=h.low<|((h.fn.args i f j n).below m (aA _) h.gr.size).trans ((Below.refl w.heap.size w').setCell (p:=Hk g<|j*2+1) y a);refine⟨⟨u,D⟩,lab',⟨o.1,o.2,h.bw,h.res.sp k (aA _) (d _ h.resl),(k.same _ (aA _) h.res.lt (d _ h.resl)).2.trans h.resl,?_,(k.same _ (dU h.fbb) h.fbx.lt (d _ h.fbl)).2.trans h.fbl,h.fbb,?_,h.es.sp k λb e=>by rw[e];simp,λE z=>(h.evs E z).sp k λb e=>by rw[e];simp,h.id.sp k λb e=>by rw[e];simp,k.fresh h.fr,h.nil_⟩,k⟩
 .rw[bL];exact h.fbx.sp k (dU h.fbb) (d _ h.fbl)
 rw[bL];exact v
end
section
variable {w wr w': World} {lab: Nat -> Nat×Nat×Nat} {sb B: Nat} {s: Sr} {fb vals G c: Nat} {xs: List Xe} {pv iv: Nat -> Value} {av: Nat -> Nat -> Value} {ve: Value} {ev: Nat -> Value} {ends: List (List Int)} {vi: Value} {ids: List Int}
theorem JU.held8{i n g a y q W K d j p k:Nat}{preds:List Int}{z:Value}(h:JU w wr lab sb B s fb vals G c xs pv iv av ve ev ends vi ids)(x:i<xs.length)(I:n<xs[i].ps.length)(J:pv i=.slice (some ⟨g,0,none⟩) y q)(H:ve=.slice (some ⟨a,0,none⟩) W K)(N:d<ends.length)(hq:I2 w wr lab (some ⟨j,p,none⟩) preds)(P:k<preds.length)(R:some z=some (Value.int .i64 preds[k]))(O:wr.grownBy w' (av i n).ownBlock) :
 (w'.cell? ⟨fb,1,none⟩=some (.slice (some ⟨G,0,none⟩) xs.length c)/\w'.cell? ⟨G,i*6,none⟩=some (.slice (some ⟨g,0,none⟩) y q)/\w'.cell? ⟨j,p+k,none⟩=some z/\w'.cell? ⟨a,d,none⟩=some (ev d)) /\
 ∀f m,((w'.setCell ⟨g,m,none⟩ f).cell? ⟨fb,1,none⟩=some (.slice (some ⟨G,0,none⟩) xs.length c)/\(w'.setCell ⟨g,m,none⟩ f).cell? ⟨G,i*6,none⟩=some (.slice (some ⟨g,0,none⟩) y q)/\(w'.setCell ⟨g,m,none⟩ f).cell? ⟨j,p+k,none⟩=some z/\(w'.setCell ⟨g,m,none⟩ f).cell? ⟨a,d,none⟩=some (ev d)):=by
 let⟨f1,f2,_,f4⟩:=h.facts x I J H N;let⟨X,Y,e,u,M,F⟩:=hq k P;cases e;rw[<-R]at F;have o:∀b,b<wr.heap.size->lab b≠(4,i,n)->w'.heap[b]?=wr.heap[b]?:=λb L Q=>O.block b L λe=>Q<|(h.fn.args i x n I).lab b e.symm
 have t:=h.fn.blks.blk;have r:(w.heap.size<=a/\a<wr.heap.size)/\lab a=(6,0,0):=by
  have v:=h.es;rw[H]at v;exact⟨v.own.lt a rfl,v.lab a rfl⟩
 have l:lab g=(2,i,0):=by
  have:=h.fn.ps i x;rw[J]at this;exact this.lab g rfl
 have S:fb≠g:=λe=>by have:=h.fbl;rw[e,l]at this;simp at this
 have T:G≠g:=λe=>by have:=t.2;rw[e,l]at this;simp at this
 have U:j≠g:=λe=>by rw[e,l]at u;simp at u
 have V:a≠g:=λe=>by have:=r.2;rw[e,l]at this;simp at this
 have A:=(Xc (o:=1) (o fb h.fbx.lt<|by rw[h.fbl];simp)).trans f1;have C:=(Xc (o:=i*6) (o G t.1.2<|by rw[t.2];simp)).trans f2;have D:=(Xc (o:=p+k) (o j M.2<|by rw[u];simp)).trans F;have E:=(Xc (o:=d) (o a r.1.2<|by rw[r.2];simp)).trans f4;refine⟨⟨A,C,D,E⟩,λf m=>⟨?_,?_,?_,?_⟩⟩;·exact(Xc<|Below.heap_setCell _ _ _ _ S).trans A
 .exact(Xc<|Below.heap_setCell _ _ _ _ T).trans C
 .exact(Xc<|Below.heap_setCell _ _ _ _ U).trans D
 exact(Xc<|Below.heap_setCell _ _ _ _ V).trans E
end
structure X6 where
 k:Nat
 acc:List Int
 s:Sr
 tl:List Value
theorem NU{ad:Exit->Act->World->Prop}(w:World)(o B:Nat)(p vals G c:Nat)(a:List Xe)(q n r:Nat)(e:List (List Int))(S:Value)(Q:List Int)(R:Option Addr)(l bd:Nat)(preds:List Int)(i j U:Nat)(s0:Sr)(c1 c2 c3 c4 c5 c6 c8 c9 ar ax ay az a0 a1 a2 a3 a4:Value)(hQ:Hs (∀c (bm:Act) t v w,ad (.panic c) (bm.put (some t) v) w->ad (.panic c) bm w))(hi:i<a.length)(hj:j<a[i].ps.length)(Y:Hs (a.length=U/\e.length=n/\preds.length=l))(dw:U<=11/\l<=1000)(br:Hs (a[i].ps[j].args.length<=1000))(df:Hs (∀ds∈preds,∃f:Nat,ds=(f:Int)/\f<n))(cz:Hs (∀m∈e,0<m.length/\m.length<=4000))
 (bz:∀(J:Sr)(E:List Value)(F:World),E.length=251->J=(ZD e preds s0 a[i].ps[j].args).2->(∃g z y av s,JU w F g o B J p vals G c (a.set i<|a[i].setPhi j ⟨a[i].ps[j].dst,(ZD e preds s0 a[i].ps[j].args).1⟩) z y av (Hl q n r) s e S Q/\I2 w F g R preds)->ad (.exit 10) ⟨(Hn o::c1::c2::c3::c4::c5::c6::Hn p::c8::c9::Hl q n r::ar::ax::ay::az::a0::a1::a2::a3::a4::Hp ((i:Nat):Int)::.slice R l bd::Hp ((j:Nat):Int)::Hp ((l:Nat):Int)::E).toArray,[]⟩ F)
 (E:List Value) (wr:World) (O:E.length=251) (bn:Hs (∃g z y av s,JU w wr g o B s0 p vals G c (a.set i<|a[i].setPhi j ⟨a[i].ps[j].dst,a[i].ps[j].args⟩) z y av (Hl q n r) s e S Q/\I2 w wr g R preds)) :
 Code.wp prog (Code.loop My) ad ⟨(Hn o::c1::c2::c3::c4::c5::c6::Hn p::c8::c9::Hl q n r::ar::ax::ay::az::a0::a1::a2::a3::a4::Hp ((i:Nat):Int)::.slice R l bd::Hp ((j:Nat):Int)::Hp ((0:Nat):Int)::E).toArray,[]⟩ wr:=by
 have HX:=Xa bz;clear bz;obtain⟨j0,da,dj,dk,dl⟩:=Xq Nv;refine iY (λa' wr=>∃x:X6,a'=⟨(Hn o::c1::c2::c3::c4::c5::c6::Hn p::c8::c9::Hl q n r::ar::ax::ay::az::a0::a1::a2::a3::a4::Hp ((i:Nat):Int)::.slice R l bd::Hp ((j:Nat):Int)::Hp ((x.k:Nat):Int)::x.tl).toArray,[]⟩/\x.tl.length=251/\x.k<=l/\Hs (ZD e (preds.drop x.k) x.s x.acc=ZD e preds s0 a[i].ps[j].args/\x.acc.length<=1000+x.k)/\Hs (∃g z y av s,JU w wr g o B x.s p vals G c (a.set i<|a[i].setPhi j ⟨a[i].ps[j].dst,x.acc⟩) z y av (Hl q n r) s e S Q/\I2 w wr g R preds)) (λa' _=>l-(intOf<|a'.tmps.getD 23 undef).toNat) ⟨⟨0,a[i].ps[j].args,s0,E⟩,rfl,O,aN _,Xa ⟨by rw[List.drop_zero],by have:=br.o;show a[i].ps[j].args.length<=1000+0;omega⟩,bn⟩ ?_;clear bn O br;rintro a' wr⟨⟨k,d,J,E⟩,rfl,O,hk,HE,HS⟩;dsimp only at O hk HE HS |-
 conv=>arg 2;whnf
 obtain⟨du,rfl⟩:=LO E O;simp only[ae,Nat.reduceAdd];clear O;by_cases d4:k<l
 .have dc:(k:Int)<l:=oM;have ab:k<preds.length:=oN Y.o;obtain⟨g,z,y,av,s,hF,hP⟩:=HS.o;obtain⟨V,op,cr,ct,cs,bw⟩:=hP k ab;obtain⟨f,h,cw⟩:=df preds[k] (aH ab);have C:f<e.length:=oN Y.o
  subst cr;have bl:Hs (∀g W,I2 w W g (some ⟨V,op,none⟩) preds->W.cell? (Hk V<|op+k)=some (Hp f)):=Xa (λg W hp=>by
   obtain⟨b',o',m,_,_,hc⟩:=hp k ab;cases m;rw[<-h];exact hc)
  have u:i<(a.set i<|a[i].setPhi j ⟨a[i].ps[j].dst,d⟩).length:=by simpa using hi
  have b6:(a.set i<|a[i].setPhi j ⟨a[i].ps[j].dst,d⟩)[i]=a[i].setPhi j ⟨a[i].ps[j].dst,d⟩:=Xj _ _ _ _;have I:j<(a.set i<|a[i].setPhi j ⟨a[i].ps[j].dst,d⟩)[i].ps.length:=by rw[b6];simpa [Xe.setPhi]using hj
  have Z:(a.set i<|a[i].setPhi j ⟨a[i].ps[j].dst,d⟩).length=U:=by rw[bL];exact Y.1
  have aj:((a.set i<|a[i].setPhi j ⟨a[i].ps[j].dst,d⟩)[i].ps[j]).args=d:=by simp only[Xe.setPhi,Xj]
  have co:Hs (((a.set i<|a[i].setPhi j ⟨a[i].ps[j].dst,d⟩)[i].ps[j]).dst=a[i].ps[j].dst):=Xa (by simp only[Xe.setPhi,Xj]);obtain⟨af,cp,bc⟩:=(hF.fn.ps i u).got oM;obtain⟨np,b3⟩:∃np,np=(a.set i<|a[i].setPhi j ⟨a[i].ps[j].dst,d⟩)[i].ps.length:=⟨_,rfl⟩;rw[<-b3]at bc;have P:=bc;obtain⟨aa,ac,a7⟩:=(hF.fn.args i u j I).form;obtain⟨al,bt⟩:∃al,al=((a.set i<|a[i].setPhi j ⟨a[i].ps[j].dst,d⟩)[i].ps[j]).args.length:=⟨_,rfl⟩;rw[<-bt]at a7;have A:=a7;obtain⟨ea,ec,a9⟩:=(hF.evs f C).form;obtain⟨X,a8⟩:∃X,X=e[f].length:=⟨_,rfl⟩;rw[<-a8]at a9;have N:=a9;obtain⟨X3,bo⟩:∃aq,aq=Ax J 3:=⟨_,rfl⟩;obtain⟨b8,s1⟩:=X3;have b4:=bo.symm;obtain⟨X4,bq⟩:∃aq,aq=YI s1 e[f] (b8 != 0):=⟨_,rfl⟩;obtain⟨L,s2⟩:=X4;have b5:=bq.symm;clear bo bq;have cg:Hs (ZD e (preds.drop<|k+1) s2 (d++[L])=ZD e preds s0 a[i].ps[j].args/\(d++[L]).length<=1000+(k+1)):=Xa (by
   have h1:=HE.o;rw[gZ ab,ZD,h,dM,show e.getD f []=e[f] by simp[C],b4]at h1;dsimp only at h1;rw[b5]at h1;exact⟨h1.1,by rw[aQ];show d.length+1<=_;omega⟩)
  have ck:Hs (∀W D,JU w W g o B D p vals G c (a.set i<|a[i].setPhi j ⟨a[i].ps[j].dst,d⟩) z y av (Hl q n r) s e S Q->Xf W w.heap.size W.heap.size ea e[f]):=Xa (λW D hh=>by
   have:=hh.evs f C;rw[N]at this;exact this.ints)
  have cj:Hs (∀W D,JU w W g o B D p vals G c (a.set i<|a[i].setPhi j ⟨a[i].ps[j].dst,d⟩) z y av (Hl q n r) s e S Q->W.ownsRow w.heap.size 2 1 (.slice aa al ac) d.length (Xt d)):=Xa (λW D hh=>by
   have:=(hh.fn.args i u j I).own;rw[A,aj]at this;exact this)
  have cd:Hs (∀W D,JU w W g o B D p vals G c (a.set i<|a[i].setPhi j ⟨a[i].ps[j].dst,d⟩) z y av (Hl q n r) s e S Q->w.heap.size<=af/\af<W.heap.size):=Xa (λW D hh=>by
   have:=hh.fn.ps i u;rw[P]at this;exact this.own.lt af rfl)
  have cq:Hs (((a.set i<|a[i].setPhi j ⟨a[i].ps[j].dst,d⟩)).set i ((a.set i<|a[i].setPhi j ⟨a[i].ps[j].dst,d⟩)[i].setPhi j ⟨((a.set i<|a[i].setPhi j ⟨a[i].ps[j].dst,d⟩)[i].ps[j]).dst,((a.set i<|a[i].setPhi j ⟨a[i].ps[j].dst,d⟩)[i].ps[j]).args++[L]⟩)=(a.set i<|a[i].setPhi j ⟨a[i].ps[j].dst,(d++[L])⟩)):=Xa (by
   rw[co.o,aj,b6,gE];simp[Xe.setPhi])
  have bf:Hs (d.length<=2000):=Xa<|oN HE.2;have cb:=Xa a8;have cx:X<=5000:=oN<|cz _ (aH C);have ca:Hs (some (Hp f)=some (Hp preds[k])):=Xa (by rw[h]);have di:=hF.lt;have d3:j<np:=oM;have d2:i<U:=oN Y.o;have d0:=cw;obtain⟨x1,x2,x3,x4⟩:=hF.facts u I P rfl C;rw[Z]at x1;rw[A]at x3;rw[N]at x4;have x5:wr.cell? (Hk V<|op+k)=some (Hp f):=by rw[<-h];exact bw
  have ao:=Xa<|hF.belowF (Below.refl _ _).drew;have ci:Hs (I2 w wr.drew g (some ⟨V,op,none⟩) preds):=Xa hP;clear hF hP HS bc a7 a9 bw cs ct a8 h bt b3;go_wp2_with fail
  refine Y7 (λF=>F.cell? (Hk p 1)=some (Hl G U c)/\F.cell? (Hk G<|i*6)=some (Hl af np cp)/\F.cell? (Hk V<|op+k)=some (Hp f)/\F.cell? (Hk q f)=some (.slice ea X ec)) λhHeld=>?_;refine X0 0 ?_;refine X0 1 ?_;refine X0 2 ?_;refine X0 3 ?_;refine X0 4 ?_;refine X0 5 ?_;refine X0 6 ?_;refine X0 7 ?_;refine X0 8 ?_;refine X0 9 ?_;refine X0 10 ?_;refine X0 11 ?_;refine X0 12 ?_;refine X0 13 ?_;refine X0 14 ?_;refine X0 15 ?_;refine X0 17 ?_;refine X0 18 ?_;refine X0 19 ?_;refine X0 20 ?_;refine X0 21 ?_;refine X0 22 ?_;refine X0 23 ?_;refine X0 24 ?_;refine X0 25 ?_;refine X0 26 ?_;refine eS (rs:=[16,27]) kR sP ?_;refine(bQ rfl (λK hK=>?_) (bQ rfl (λK hK=>?_) dY));go_simp;refine hK _ _ kP λhHeld=>?_;clear hK
  try simp only[xX]
  refine Xs 27 λK hK=>?_
  all_goals (
   go_simp
   go_at_call 27
   refine(XC o B J 3 _ (Xa ao.dr) oM oM).mono ?_;rintro m w1⟨rfl,h,H⟩;rw[b4]at h |-;dsimp only at h |-;have T:=Xa<|ao.call H h;have bi:=Xa (ci.sp (XW.grown H ao.lt) λ_ _ _=>trivial);obtain⟨y1,y2,y3,y4⟩:=T.facts u I P rfl C;rw[Z]at y1;rw[A]at y3;rw[N]at y4;have y5:=bl _ _ bi;clear h H;refine hK _ _ ⟨y1,y2,y5,y4⟩ λhHeld=>?_;clear hK;refine X0 28 ?_;skip)
  refine Xs 29 λK hK=>?_;rotate_left;refine eS (rs:=[16,29]) kR sP ?_;refine(bQ rfl (λK hK=>?_) (bQ rfl (λK hK=>?_) dY));go_simp;refine hK _ _ kP λhHeld=>?_;clear hK
  try simp only[xX]
  refine Xs 29 λK hK=>?_
  all_goals (
   go_simp
   go_at_call 69
   have cf:=Xa<|ck.o _ _ T;refine(JA o B s1 ea X ec e[f] w.heap.size w1.heap.size (b8 != 0) w1 (Xa T.dr) cf cb cx di (aA _)).mono ?_;rintro m w2⟨rfl,h,H⟩;rw[b5]at h |-;dsimp only at h |-;have M:=Xa<|T.call H h;have ap:=Xa (bi.sp (XW.grown H T.lt) λ_ _ _=>trivial);obtain⟨z1,z2,z3,z4⟩:=M.facts u I P rfl C;rw[Z]at z1;rw[A]at z3;rw[N]at z4;have z5:=bl _ _ ap;have d5:=M.gr.size;have d1:=(cd _ _ M).2;clear h H;refine hK _ _ ⟨z1,z2,z5,z4⟩ λhHeld=>?_;clear hK;skip)
  refine Xs 30 λK hK=>?_;go_simp;refine hK _ _ kP λhHeld=>?_;clear hK;rotate_left;refine eS (rs:=[16,30]) kR sP ?_;refine(bQ rfl (λK hK=>?_) (bQ rfl (λK hK=>?_) dY));go_simp;refine hK _ _ kP λhHeld=>?_;clear hK
  try simp only[xX]
  refine Xs 30 λK hK=>?_;go_simp;refine hK _ _ kP λhHeld=>?_;clear hK;rotate_left;go_simp;refine hK _ _ kP λhHeld=>?_;clear hK
  try simp only[xX]
  refine Xs 16 λK hK=>?_;go_simp;refine hK _ _ kP λhHeld=>?_;clear hK;rotate_left;refine Xs 30 λK hK=>?_;go_simp;refine hK _ _ kP λhHeld=>?_;clear hK
  all_goals (
   refine Xs 31 λK hK=>?_;refine dm rfl _ _ 27 rfl w.heap.size 2 j0 (Hp 0) 1 8 underlying27 da dj dk dl rfl vZ (.slice aa al ac) d.length (Xt d) rfl ?s1 (Hk w2.heap.size 0) 1 1 [Hp L] rfl rfl ?s2 ?s3 ?s4 ?s5 ?s6 ?_
   case s1=>exact(cj _ _ M).alloc _
   case s2=>exact Yf _ _ _
   case s3=>intro ed hu;simp at hu;subst hu;rfl
   case s4=>unfold maxLen;have:=bf.o;omega
   case s5=>have:=bf.o;omega
   case s6=>simp;omega
   intro v8 w8 bb ba dd bv;obtain⟨a5,a6⟩:=(M.box _).held8 u I P rfl C (ap.sp (XW.box _) λ_ _ _=>trivial) ab ca (by rw[A];exact ba);obtain⟨⟨bx,dn⟩,eb,b0,b7⟩:=(M.box _).pushArg (x:=L) u I P (by rw[A];exact ba) (by rw[aj];exact bb) (by rw[aj]) (by rw[A];simpa using bv);have ch:=Xa ((ap.sp (XW.box _) λ_ _ _=>trivial).sp b7 λb m _=>by rw[m];simp);rw[Z,N]at a5;simp only[Z,N]at a6;rw[A]at bx;have cl:=Xa a5;have cm:=Xa a6;have cc:=Xa b0;obtain⟨g8,c8,rfl,c7,cv⟩:=Xm bb oM;clear a5 a6 b0 b7 c7 cv dd bv bb ba;refine hK _ _ cl λhHeld=>?_;clear hK;refine X0 32 ?_;refine X0 33 ?_;refine Xs 34 λK hK=>?_;go_simp;refine hK _ _ (cm _ _) λhHeld=>?_;clear hK;refine Yq ?_;clear hHeld bx dn;go_wp2_with fail
   refine⟨⟨⟨k+1,d++[L],s2,_⟩,rfl,rfl,(by show k+1<=l;omega),cg,Xa ?_⟩,by simp[intOf];omega⟩;have b1:=cc.o;rw[cq.o]at b1;exact⟨_,_,_,_,_,b1,ch⟩)
 have dc:¬(k:Int)<l:=oM;have db:k=l:=oM;subst db;go_wp2_with fail
 have m:=HE.1;rw[List.drop_of_length_le<|oN Y.o]at m;have e1:(d,J)=ZD e preds s0 a[i].ps[j].args:=m;refine HX J _ _ rfl (by rw[<-e1]) ?_;rw[<-e1];exact HS
structure X5 where
 j:Nat
 k:Nat
 ps:List Ph
 s:Sr
 c23:Value
 tl:List Value
theorem NH{Q:Exit->Act->World->Prop}(w:World)(u C:Nat)(k vals G c:Nat)(a:List Xe)(o h n:Nat)(d:List (List Int))(P:Value)(L:List Int)(r:Option Addr)(y O:Nat)(preds:List Int)(i N:Nat)(s0:Sr)(c1 c2 c3 c4 c5 c6 c8 c9 S T U V W X Y Z aa:Value)(hQ:Hs (∀c (E:Act) aj al w,Q (.panic c) (E.put (some aj) al) w->Q (.panic c) E w))(hi:i<a.length)(hN:Hs (a.length=N/\d.length=h/\preds.length=y))(a3:N<=11/\y<=1000)(ar:Hs (∀bd∈a[i].ps,bd.args=[]))(bb:Hs (∀bf∈preds,∃ao:Nat,bf=(ao:Int)/\ao<h))(a4:Hs (∀ap∈d,0<ap.length/\ap.length<=4000))(ba:Hs (a[i].ps.length<=1000))
 (ax:∀(s:Sr)(a1 z:Value)(e:List Value)(R:World),e.length=251->s=(JC d preds a[i].ps.length 0 a[i].ps s0).2->(∃g t q av v,JU w R g u C s k vals G c (a.set i ⟨(JC d preds a[i].ps.length 0 a[i].ps s0).1,a[i].is,a[i].te⟩) t q av (Hl o h n) v d P L/\I2 w R g r preds)->Q (.exit 8) ⟨(Hn u::c1::c2::c3::c4::c5::c6::Hn k::c8::c9::Hl o h n::S::T::U::V::W::X::Y::Z::aa::Hp ((i:Nat):Int)::.slice r y O::a1::z::e).toArray,[]⟩ R)
 (z:Value) (e:List Value) (wr:World) (f:e.length=251) (H:Hs (∃g t q av v,JU w wr g u C s0 k vals G c (a.set i ⟨a[i].ps,a[i].is,a[i].te⟩) t q av (Hl o h n) v d P L/\I2 w wr g r preds)) :
 Code.wp prog (Code.loop Mk) Q ⟨(Hn u::c1::c2::c3::c4::c5::c6::Hn k::c8::c9::Hl o h n::S::T::U::V::W::X::Y::Z::aa::Hp ((i:Nat):Int)::.slice r y O::Hp ((0:Nat):Int)::z::e).toArray,[]⟩ wr:=by
 have HX:=Xa ax;clear ax;let⟨M,I⟩:∃M,M=a[i].ps.length:=⟨_,rfl⟩;refine iY (λF wr=>∃x:X5,F=⟨(Hn u::c1::c2::c3::c4::c5::c6::Hn k::c8::c9::Hl o h n::S::T::U::V::W::X::Y::Z::aa::Hp ((i:Nat):Int)::.slice r y O::Hp ((x.j:Nat):Int)::x.c23::x.tl).toArray,[]⟩/\x.tl.length=251/\x.j+x.k=M/\Hs (JC d preds x.k x.j x.ps x.s=JC d preds a[i].ps.length 0 a[i].ps s0/\x.ps.length=M/\∀m (J:m<x.ps.length),x.j<=m->x.ps[m].args=[])/\Hs (∃g t q av v,JU w wr g u C x.s k vals G c (a.set i ⟨x.ps,a[i].is,a[i].te⟩) t q av (Hl o h n) v d P L/\I2 w wr g r preds)) (λF _=>M-(intOf<|F.tmps.getD 22 undef).toNat) ⟨⟨0,M,a[i].ps,s0,z,e⟩,rfl,f,by show 0+M=M;omega,Xa ⟨by rw[I],I.symm,λm J _=>ar _<|aH J⟩,H⟩ ?_;have HM:=Xa I;clear H f ar I;rintro F wr⟨⟨j,B,b,s,z,e⟩,rfl,f,a6,l,D⟩;dsimp only at f a6 l D |-
 conv=>arg 2;whnf
 obtain⟨a2,rfl⟩:=LO e f;simp only[ae,Nat.reduceAdd];clear f;let⟨g,t,q,av,v,hF,hP⟩:=D.o;have ab:i<(a.set i ⟨b,a[i].is,a[i].te⟩).length:=by simpa using hi
 have A:(a.set i ⟨b,a[i].is,a[i].te⟩)[i]=⟨b,a[i].is,a[i].te⟩:=Xj _ _ _ _;have aq:(a.set i ⟨b,a[i].is,a[i].te⟩).length=N:=by rw[bL];exact hN.1
 have x1:wr.cell? (Hk k 1)=some (Hl G N c):=by rw[<-aq];exact Bx.cell hF.fbx rfl
 let⟨gp,cp,K⟩:=(hF.fn.ps i ab).form;rw[A]at K;have ad:=l.2.1;rw[show(⟨b,a[i].is,a[i].te⟩:Xe).ps.length=M from ad]at K;have x2:wr.cell? (Hk G<|i*6)=some (.slice gp M cp):=by
  refine hF.fn.blks.cell ?_;unfold XF;have:=Xz (f:=λi (x:Xe)=>UT (t i) (q i) x.te) (sz:=6) (λ_ _=>rfl) 0 _ i ab 0 vZ;rw[fW,aV]at this;rw[this,<-K];rfl
 have bl:i<N:=oN hN.o;have bi:M<=1000:=oP ba.o HM.o;clear hF hP K;cases B with
 |succ B=>
  have a8:(j:Int)<M:=oM;have ac:j<b.length:=oM;have a5:j<(a.set i ⟨b,a[i].is,a[i].te⟩)[i].ps.length:=by rw[A];exact ac
  have af:(a.set i ⟨b,a[i].is,a[i].te⟩)[i].ps[j]=b[j]:=by simp only[A]
  clear ad;go_wp2_with fail
  refine NU w u C k vals G c (a.set i ⟨b,a[i].is,a[i].te⟩) o h n d P L r y O preds i j N s _ _ _ _ _ _ _ _ _ _ _ _ _ _ _ _ _ (by exact Xa λc E aj al w H=>hQ c E aj al w H) ab a5 (Xa ⟨aq,hN.2⟩) a3 (Xa<|by rw[af,l.2.2 j ac<|aA _];simp) bb a4 ?_ _ _ (by rfl) (Xa ?_)
  .intro s' e R f ay p;obtain⟨a2,rfl⟩:=LO e f;simp only[ae,Nat.reduceAdd];clear f;have HF:=Xa p;have a0:=Xa ay;clear p ay x1 x2;go_wp2_with fail
   have e0:b.getD j Wo=b[j]:=by simp[ac]
   have e1:JC d preds B (j+1) (b.set j ⟨b[j].dst,(ZD d preds s b[j].args).1⟩) (ZD d preds s b[j].args).2=JC d preds a[i].ps.length 0 a[i].ps s0:=by
    have:=l.1;rw[JC,e0]at this;exact this
   have p:=HF.o;have az:=a0.o;rw[af]at p az;rw[az]at p;rw[show((a.set i ⟨b,a[i].is,a[i].te⟩)).set i ((a.set i ⟨b,a[i].is,a[i].te⟩)[i].setPhi j ⟨b[j].dst,(ZD d preds s b[j].args).1⟩)=(a.set i ⟨(b.set j ⟨b[j].dst,(ZD d preds s b[j].args).1⟩),a[i].is,a[i].te⟩)from by rw[A,gE];rfl]at p;refine⟨⟨⟨j+1,B,b.set j ⟨b[j].dst,(ZD d preds s b[j].args).1⟩,(ZD d preds s b[j].args).2,_,_⟩,rfl,rfl,(by show j+1+B=M;omega),Xa ⟨e1,by show(b.set j _).length=M;rw[bL];exact l.2.1,λm J a7=>?_⟩,Xa p⟩,by simp[intOf];omega⟩;have a9:m<b.length:=by simpa using J
   have bm:j+1<=m:=a7;show(b.set j _)[m].args=[];rw[bI oM];exact l.2.2 m a9 oM
  have bc:=D.o
  have e3:((a.set i ⟨b,a[i].is,a[i].te⟩)).set i ((a.set i ⟨b,a[i].is,a[i].te⟩)[i].setPhi j ⟨((a.set i ⟨b,a[i].is,a[i].te⟩)[i].ps[j]).dst,((a.set i ⟨b,a[i].is,a[i].te⟩)[i].ps[j]).args⟩)=(a.set i ⟨b,a[i].is,a[i].te⟩):=by
   rw[af,A,gE];show a.set i ⟨b.set j b[j],a[i].is,a[i].te⟩=_;rw[fK]
  rw[e3];exact bc
 |zero=>
  have a8:¬(j:Int)<M:=oM;clear ad;go_wp2_with fail
  have e1:(b,s)=JC d preds a[i].ps.length 0 a[i].ps s0:=l.1;refine HX s _ _ _ _ rfl (by rw[<-e1]) ?_;rw[<-e1];exact D
theorem rn:∀(a:List Xe)(i:Nat)(b q:Int),q∈AQ a i b->∃d:Nat,q=(d:Int)/\i<=d/\d<i+a.length
 |[],_,_,_,h=>by simp[AQ]at h
 |x::a,i,b,q,h=>by
  rw[AQ]at h;rcases bU.1 h with h|h
  .split at h
   .simp only[cH,eA,lL]at h;exact⟨i,h,aA _,sP⟩
   simp at h
  obtain⟨d,e,c,f⟩:=rn a (i+1) b q h;exact⟨d,e,oM,by rw[bA];omega⟩
theorem JP:∀(a:List Xe)(i:Nat)(b:Int),(AQ a i b).length<=a.length
 |[],_,_=>by simp[AQ]
 |x::a,i,b=>by
  rw[AQ,aQ,bA];have:=JP a (i+1) b;split
  .simp only[bA,bO];omega
  simp only[bO];omega
structure X4 where
 i:Nat
 k:Nat
 xs:List Xe
 s:Sr
 c21:Value
 c22:Value
 c23:Value
 tl:List Value
theorem M2{Q:Exit->Act->World->Prop}(w:World)(n B:Nat)(f vals G c:Nat)(j:List Xe)(l h k:Nat)(b:List (List Int))(H:Value)(F:List Int)(N:Nat)(s0:Sr)(c1 c2 c3 c4 c5 U V W J K L M O P R S T:Value)(hQ:Hs (∀c (A:Act) aa ab w,Q (.panic c) (A.put (some aa) ab) w->Q (.panic c) A w))(X:Hs (j.length=N/\b.length=h/\h=N))(a8:N<=11)(aj:Hs (∀x∈j,x.ps.length<=1000/\∀p∈x.ps,p.args=[]))(a9:Hs (∀u∈b,0<u.length/\u.length<=4000))
 (ao:∀(s:Sr)(t o q:Value)(e:List Value)(w':World),e.length=251->s=(ZL b N 0 j s0).2->LQ w w' n B ⟨(ZL b N 0 j s0).1,b,vals,s⟩ f G c (Hl l h k) H F->Q (.exit 6) ⟨(Hn n::c1::c2::c3::c4::c5::U::Hn f::V::W::Hl l h k::J::K::L::M::O::P::R::S::T::Hp ((N:Nat):Int)::t::o::q::e).toArray,[]⟩ w')
 (t o q:Value) (e:List Value) (wr:World) (g:e.length=251) (D:Hs (LQ w wr n B ⟨j,b,vals,s0⟩ f G c (Hl l h k) H F)) :
 Code.wp prog (Code.loop Mp) Q ⟨(Hn n::c1::c2::c3::c4::c5::U::Hn f::V::W::Hl l h k::J::K::L::M::O::P::R::S::T::Hp ((0:Nat):Int)::t::o::q::e).toArray,[]⟩ wr:=by
 have HX:=Xa ao;clear ao;refine iY (λC wr=>∃x:X4,C=⟨(Hn n::c1::c2::c3::c4::c5::U::Hn f::V::W::Hl l h k::J::K::L::M::O::P::R::S::T::Hp ((x.i:Nat):Int)::x.c21::x.c22::x.c23::x.tl).toArray,[]⟩/\x.tl.length=251/\x.i+x.k=N/\Hs (ZL b x.k x.i x.xs x.s=ZL b N 0 j s0/\x.xs.length=N/\∀m (E:m<x.xs.length),x.i<=m->x.xs[m].ps.length<=1000/\∀p∈x.xs[m].ps,p.args=[])/\Hs (LQ w wr n B ⟨x.xs,b,vals,x.s⟩ f G c (Hl l h k) H F)) (λC _=>N-(intOf<|C.tmps.getD 20 undef).toNat) ⟨⟨0,N,j,s0,t,o,q,e⟩,rfl,g,by show 0+N=N;omega,Xa ⟨rfl,X.1,λm E _=>aj _<|aH E⟩,D⟩ ?_;clear D g aj;rintro C wr⟨⟨i,y,a,s,t,o,q,e⟩,rfl,g,bb,d,I⟩;dsimp only at g bb d I |-
 conv=>arg 2;whnf
 obtain⟨a7,rfl⟩:=LO e g;simp only[ae,Nat.reduceAdd];clear g;let⟨bq,pv,iv,av,ev,hF⟩:=I.o;dsimp only at hF;have x1:wr.cell? (Hk f 1)=some (Hl G N c):=by rw[<-d.2.1];exact Bx.cell hF.fbx rfl
 have x0:Cl wr f 0 (Hp vals):=Bx.cell hF.fbx rfl;have ac:=Xa hF.fn.at_;have r:=Xa hF;clear hF;cases y with
 |succ y=>
  have bd:(i:Int)<N:=oM;have v:i<a.length:=oN d.o;have z:=Xa d.2.1.symm;go_wp2_with fail
  refine(ZE vals (some ⟨G,0,none⟩) N c (i:Int) a w.heap.size wr.heap.size wr ac z oM (aA _)).mono ?_;rintro u w1⟨pa,bm,rfl,al,ar⟩;have af:=Xa<|I2.start r ar;have a0:=Xa<|r.belowF al;have Y:=rn a 0 (i:Int);have ax:=JP a 0 (i:Int);have ad:Hs (ZL b y (i+1) (a.set i ⟨(JC b (AQ a 0 (i:Int)) a[i].ps.length 0 a[i].ps s).1,a[i].is,a[i].te⟩) (JC b (AQ a 0 (i:Int)) a[i].ps.length 0 a[i].ps s).2=ZL b N 0 j s0):=Xa (by
   have:=d.1;rw[ZL,show a.getD i XV=a[i] by simp[v]]at this;exact this)
  let⟨preds,ay⟩:∃p,p=AQ a 0 (i:Int):=⟨_,rfl⟩;rw[<-ay]at af Y ax ad |-;let⟨pl,Z⟩:∃pl,pl=preds.length:=⟨_,rfl⟩;rw[<-Z]at ax |-;have a2:=Xa Z;have a1:=Xa Y;clear ay Z Y al ar x1 x0 ac r;go_wp2_with fail
  refine NH w n B f vals G c a l h k b H F pa pl bm preds i N s _ _ _ _ _ _ _ _ _ _ _ _ _ _ _ _ _ (by exact Xa λc A aa ab w D=>hQ c A aa ab w D) v (Xa ⟨z.symm,X.2.1,a2.symm⟩) ⟨a8,oN z.o⟩ (Xa (d.2.2 i v<|aA _).2) (Xa (λbo hq=>by
   let⟨a5,u,h1,h2⟩:=a1 bo hq;exact⟨a5,u,oP X.o z.o⟩)) a9 (Xa (d.2.2 i v<|aA _).1) ?_ _ _ _ (by rfl) (Xa ?_)
  .intro s' o q e w' g az aq;obtain⟨a7,rfl⟩:=LO e g;simp only[ae,Nat.reduceAdd];clear g;have r:=Xa aq;have a3:=Xa az;clear aq az;go_wp2_with fail
   obtain⟨bl,bn,bi,a4,a6,ap,-⟩:=r.o;rw[a3.o]at ap;refine⟨⟨⟨i+1,y,a.set i ⟨(JC b preds a[i].ps.length 0 a[i].ps s).1,a[i].is,a[i].te⟩,(JC b preds a[i].ps.length 0 a[i].ps s).2,_,_,_,_⟩,rfl,rfl,(by show i+1+y=N;omega),Xa ⟨ad,by show(a.set i _).length=N;rw[bL];exact d.2.1,λm E bc=>?_⟩,Xa ⟨bl,bn,bi,a4,a6,ap⟩⟩,by simp[intOf];omega⟩;have bf:m<a.length:=by simpa using E
   have bp:i+1<=m:=bc;show(a.set i _)[m].ps.length<=1000/\∀p∈(a.set i _)[m].ps,p.args=[];rw[bI oM];exact d.2.2 m bf oM
  have e3:a.set i ⟨a[i].ps,a[i].is,a[i].te⟩=a:=fK v;rw[e3];exact⟨_,_,_,_,_,a0,af⟩
 |zero=>
  have bd:¬(i:Int)<N:=oM;have ba:i=N:=oM;subst ba;go_wp2_with fail
  have e1:(a,s)=ZL b i 0 j s0:=d.1;refine HX s _ _ _ _ _ rfl (by rw[<-e1]) ?_;rw[<-e1];exact I
def CP(b n:Nat):Nat:=if b=0 then 0 else n-b
def J1(b:Int)(n:Nat):Int:=if b=0 then 0 else (n:Int)-b
def YB(n:Nat)(t:Yj):Yj:=⟨t.kind,t.a,if t.kind≠3 then J1 t.to n else t.to,if t.kind=2 then J1 t.els n else t.els⟩
def YP(a:List Xe):List Xe:=(List.range a.length).map λb=>⟨(a.getD (CP b a.length) XV).ps,(a.getD (CP b a.length) XV).is,YB a.length (a.getD (CP b a.length) XV).te⟩
def Wy(n:Nat)(a args:List Int)(z:Int):List Int:=(List.range a.length).filterMap λm=>if a.getD m 0=J1 z n then some (args.getD m 0)else none
def JH(n:Nat)(b a args:List Int):List Int:=a.flatMap<|Wy n b args
def YD(n:Nat)(c a:List Int)(b:List Ph):List Ph:=b.map λp=>⟨p.dst,JH n c a p.args⟩
def Ks(a:List Xe):Nat->Nat->List Xe->List Xe
 |0,_,g=>g
 |k+1,b,g=>Ks a k (b+1) (g.set b ⟨YD a.length (AQ a 0 (CP b a.length:Nat)) (AQ g 0 (b:Int)) (g.getD b XV).ps,(g.getD b XV).is,(g.getD b XV).te⟩)
def Zh(a:List Xe):List Xe:=Ks a a.length 0<|YP a
def He(top:Int)(x:Yg):Yg:=⟨x.op,if dB x.op=true then wrap64 (top-x.dst)else x.dst,if aB x.op=true then wrap64 (top-x.a)else x.a,if bB x.op=true then wrap64 (top-x.b)else x.b,x.imm⟩
def oU(top:Int)(t:Yj):Yj:=⟨t.kind,if t.kind≠1 then wrap64 (top-t.a)else t.a,t.to,t.els⟩
def Jp(top:Int)(x:Xe):Xe:=⟨x.ps.map λp=>⟨wrap64<|top-p.dst,p.args.map λz=>wrap64<|top-z⟩,x.is.map<|He top,oU top x.te⟩
def Tm(v:Nat)(a:List Xe):List Xe:=a.map<|Jp ((v:Int)-1)
def iu(a:List Xe):Prop:=∀i (h:i<a.length),∀p∈a[i].ps,p.args.length=(AQ a 0 (i:Int)).length
noncomputable def jg(s:Sr)(c:Bool):List Xe×Nat×Sr :=
 let a:=Ax s<|3+s.size;let b:=Ax a.2 2;let t:=JB (a.1.toNat+1) (a.1.toNat+1) 0 b.2 [];let d:=ZI c (a.1.toNat+1) t.1 t.2;let g:=Zm (b.1==0) d.2.1 d.1.length 0 ⟨d.1.map Yt,[],0,d.2.2⟩;let h:=ZL g.ends d.1.length 0 g.xs g.s
 (h.1,g.v,h.2)
noncomputable def XM(s:Sr)(a:Bool):Fn×Sr :=
 let g:=jg s a;let p:=Ax g.2.2 3;let q:=Ax p.2 3
 (⟨g.2.1,if q.1=0 then Tm g.2.1 (if p.1=0 then Zh g.1 else g.1)else (if p.1=0 then Zh g.1 else g.1)⟩,q.2)
section
def Kg(xs:List Xe):Prop:=∀x∈xs,x.ps.length<=1000/\(∀p∈x.ps,p.args.length<=1000)/\x.is.length<=1000
def fw(n:Nat)(t:Yj):Prop:=(t.kind=1\/t.kind=2\/t.kind=3)/\0<=t.to/\t.to<n/\0<=t.els/\t.els<n
def LZ(xs:List Xe):Prop:=∀x∈xs,fw xs.length x.te
def tY:Prop:=∀(v:Nat)(G n c:Nat)(xs:List Xe)(lab:Nat->Nat×Nat×Nat)(a:Nat)(pv iv:Nat->Value)(av:Nat->Nat->Value)(w:World),Hs (ZU w lab a (.slice (some ⟨G,0,none⟩) n c) xs pv iv av)->Hs (n=xs.length)->a<=w.heap.size->Hs (∀b,w.heap.size<=b->lab b=(0,0,0))->Hs (iu xs)->Hs (Kg xs)->Hs (LZ xs)->1<=n->n<=11 ->
 Calls prog 70 #[.agg #[.int .i64 (v:Int),.slice (some ⟨G,0,none⟩) n c]] w λh w'=>∃d e f j i g,h=.returned (.agg #[.int .i64 (v:Int),.slice (some ⟨e,0,none⟩) n f])/\Below w.heap.size w w'/\ZU w' d a (.slice (some ⟨e,0,none⟩) n f) (Zh xs) j i g/\(∀b,w'.heap.size<=b->d b=(0,0,0))/\(∀b,b<w.heap.size->lab b=(0,0,0)->d b=(0,0,0))
def ET:Prop:=∀(v:Nat)(G n c:Nat)(xs:List Xe)(lab:Nat->Nat×Nat×Nat)(a:Nat)(pv iv:Nat->Value)(av:Nat->Nat->Value)(w:World),Hs (ZU w lab a (.slice (some ⟨G,0,none⟩) n c) xs pv iv av)->Hs (n=xs.length)->a<=w.heap.size->Hs (∀b,w.heap.size<=b->lab b=(0,0,0))->n<=11->v<=1000->Hs (Kg xs) ->
 Calls prog 71 #[.agg #[.int .i64 (v:Int),.slice (some ⟨G,0,none⟩) n c]] w λe w'=>e=.returned (.agg #[.int .i64 (v:Int),.slice (some ⟨G,0,none⟩) n c])/\Below a w w'/\ZU w' lab a (.slice (some ⟨G,0,none⟩) n c) (Tm v xs) pv iv av/\(∀b,b<w.heap.size->lab b=(0,0,0)->w'.heap[b]?=w.heap[b]?)/\(∀b,w'.heap.size<=b->lab b=(0,0,0))
structure Iu(w wr:World)(lab:Nat->Nat×Nat×Nat)(sb B:Nat)(s:Sr)(fb vals G c:Nat)(xs:List Xe)(pv iv:Nat->Value)(av:Nat->Nat->Value):Prop where
 dr:ZQ wr sb B s
 gr:w.grownBy wr (some sb)
 bw:B<=w.heap.size
 res:Bx wr w.heap.size #[.int .i64 0,.slice none 0 0] 25
 resl:lab w.heap.size=(0,0,0)
 fbx:Bx wr fb #[.int .i64 vals,.slice (some ⟨G,0,none⟩) xs.length c] 25
 fbl:lab fb=(0,0,0)
 fbb:w.heap.size<fb
 fn:ZU wr lab w.heap.size (.slice (some ⟨G,0,none⟩) xs.length c) xs pv iv av
 fr:∀b,wr.heap.size<=b->lab b=(0,0,0)
variable {w wr w': World} {lab: Nat -> Nat×Nat×Nat} {sb B: Nat} {s s': Sr} {fb vals G c: Nat} {xs: List Xe} {pv iv: Nat -> Value} {av: Nat -> Nat -> Value}
theorem JU.toT{e:Value}{b:Nat->Value}{a:List (List Int)}{f:Value}{d:List Int}(h:JU w wr lab sb B s fb vals G c xs pv iv av e b a f d):Iu w wr lab sb B s fb vals G c xs pv iv av:=⟨h.dr,h.gr,h.bw,h.res,h.resl,h.fbx,h.fbl,h.fbb,h.fn,h.fr⟩
theorem Iu.lt(h:Iu w wr lab sb B s fb vals G c xs pv iv av):sb<w.heap.size:=oP h.bw h.dr.bB
theorem Iu.call(h:Iu w wr lab sb B s fb vals G c xs pv iv av)(g:wr.grownBy w' (some sb))(d:ZQ w' sb B s'):Iu w w' lab sb B s' fb vals G c xs pv iv av:=by
 have k:XW wr w' lab lab w.heap.size (λ_=>True):=XW.grown g h.lt;exact⟨d,Y5 h.gr g,h.bw,h.res.sp k (aA _) trivial,h.resl,h.fbx.sp k (dU h.fbb) trivial,h.fbl,h.fbb,h.fn.sp k 0 (λ_ _ _ _ _=>trivial) (bC λ_ _=>trivial),k.fresh h.fr⟩
theorem Iu.low(h:Iu w wr lab sb B s fb vals G c xs pv iv av)(k:Below w.heap.size wr w'):ZQ w' sb B s/\w.grownBy w' (some sb) :=
 ⟨h.dr.keep<|k.mono h.bw,⟨k.os.trans h.gr.os,k.tape.trans h.gr.tape,k.output.trans h.gr.output,aJ h.gr.size k.size,λb a d=>(k.block b a).trans (h.gr.block b a d)⟩⟩
theorem qu(xs:List Xe):∀(k b:Nat)(g:List Xe),(Ks xs k b g).length=g.length
 |0,_,_=>rfl
 |k+1,b,g=>by rw[Ks,qu];simp
theorem mi(xs:List Xe):(Zh xs).length=xs.length:=by unfold Zh;rw[qu];simp[YP]
theorem m6(v:Nat)(xs:List Xe):(Tm v xs).length=xs.length:=by simp[Tm]
theorem Iu.turned{a:Nat->Nat×Nat×Nat}{f g:Nat}{q n:Nat->Value}{j:Nat->Nat->Value}(h:Iu w wr lab sb B s fb vals G c xs pv iv av)(d:Below wr.heap.size wr w')(t:ZU w' a w.heap.size (.slice (some ⟨f,0,none⟩) xs.length g) (Zh xs) q n j)(r:∀b,w'.heap.size<=b->a b=(0,0,0))(l:∀b,b<wr.heap.size->lab b=(0,0,0)->a b=(0,0,0)) :
 Iu w ((w'.setCell ⟨fb,0,none⟩ (.int .i64 vals)).setCell ⟨fb,1,none⟩ (.slice (some ⟨f,0,none⟩) xs.length g)) a sb B s fb vals f g (Zh xs) q n j:=by
 have m:=h.low<|d.mono h.gr.size;have u:=h.fbx.keep<|d.block _ h.fbx.lt;have k:=l fb h.fbx.lt h.fbl;have o:XW w' ((w'.setCell (Hk fb 0) (Hp vals)).setCell (Hk fb 1) (Hl f xs.length g)) a a w.heap.size (λb=>b≠fb):=((XW.put fb _ _).trans (XW.put fb _ _)).weak λ_ d=>⟨d,d⟩;have p:∀b,(a b).1≠0->b≠fb:=λb i e=>i (by rw[e,k]);have x:=h.bw;have v:=h.fbb;refine⟨(m.1.put oM).put oM,XS (XS m.2 oM) oM,h.bw,((h.res.keep<|d.block _ h.res.lt).other oM).other oM,l _ h.res.lt h.resl,?_,k,h.fbb,?_,o.fresh r⟩
 .rw[mi];have:=(u.set 0<|Hp vals).set 1 (Hl f xs.length g);simpa using this
 rw[mi];exact t.sp o 0 (λb i _ _ _=>p b i) (bC λb e=>p b (by rcases e with e|e<;>rw[e]<;>simp))
theorem Iu.renamed(h:Iu w wr lab sb B s fb vals G c xs pv iv av)(a:Below w.heap.size wr w')(l:ZU w' lab w.heap.size (.slice (some ⟨G,0,none⟩) xs.length c) (Tm vals xs) pv iv av)(f:∀b,b<wr.heap.size->lab b=(0,0,0)->w'.heap[b]?=wr.heap[b]?)(k:∀b,w'.heap.size<=b->lab b=(0,0,0)) :
 Iu w ((w'.setCell ⟨fb,0,none⟩ (.int .i64 vals)).setCell ⟨fb,1,none⟩ (.slice (some ⟨G,0,none⟩) xs.length c)) lab sb B s fb vals G c (Tm vals xs) pv iv av:=by
 have g:=h.low a;have m:=h.fbx.keep<|f _ h.fbx.lt h.fbl;have i:XW w' ((w'.setCell (Hk fb 0) (Hp vals)).setCell (Hk fb 1) (Hl G xs.length c)) lab lab w.heap.size (λb=>b≠fb):=((XW.put fb _ _).trans (XW.put fb _ _)).weak λ_ a=>⟨a,a⟩;have j:∀b,(lab b).1≠0->b≠fb:=λb d e=>d (by rw[e,h.fbl]);have o:=h.bw;have n:=h.fbb;refine⟨(g.1.put oM).put oM,XS (XS g.2 oM) oM,h.bw,((h.res.keep<|f _ h.res.lt h.resl).other oM).other oM,h.resl,?_,h.fbl,h.fbb,?_,i.fresh k⟩
 .rw[m6];have:=(m.set 0<|Hp vals).set 1 (Hl G xs.length c);simpa using this
 rw[m6];exact l.sp i 0 (λb d _ _ _=>j b d) (bC λb e=>j b (by rcases e with e|e<;>rw[e]<;>simp))
end
section
variable {w w': World} {lab: Nat -> Nat×Nat×Nat} {base: Nat} {v: Value} {xs: List Xe} {pv iv: Nat -> Value} {av: Nat -> Nat -> Value}
theorem ZU.upd{i:Nat}{L:Nat×Nat×Nat}(h:ZU w lab base v xs pv iv av)(x:Xe)(r:∀b,base<=b->b<w.heap.size->lab b≠L->w'.heap[b]?=w.heap[b]?)(c:L=(1,0,0)\/L.2.1=i)
 (p:Xv w' lab (1,0,0) base 46 6 v xs.length (XF pv iv<|xs.set i x)) (y:Xv w' lab (2,i,0) base 106 2 (pv i) x.ps.length (Yh (av i) x.ps)) (hq:Xv w' lab (3,i,0) base 48 5 (iv i) x.is.length (YC x.is)) (ha:∀j (f:j<x.ps.length),Xv w' lab (4,i,j) base 2 1 (av i j) x.ps[j].args.length (Xt x.ps[j].args)) :
 ZU w' lab base v (xs.set i x) pv iv av:=by
 have keep:∀{M:Nat×Nat×Nat}{t o:Nat}{u:Value}{n:Nat}{l:List Value},Xv w lab M base t o u n l->M≠L->Xv w' lab M base t o u n l:=λz s=>z.keep λb m g e=>⟨r b m g (by rw[e];exact s),e⟩
 have k:∀q a j,1<q->a≠i->((q,a,j):Nat×Nat×Nat)≠L:=λq a j m g e=>by
  rcases c with c|c
  .rw[c]at e;simp at e;omega
  rw[<-e]at c;exact g c
 refine⟨by rw[bL];exact p,λa d=>?_,λa d=>?_,λa d j f=>?_⟩
 .by_cases e:a=i
  .subst e;simp only[Xj];exact y
  rw[bI λe2=>e e2.symm];exact keep (h.ps a<|by simpa using d) (k _ _ _ vZ e)
 .by_cases e:a=i
  .subst e;simp only[Xj];exact hq
  rw[bI λe2=>e e2.symm];exact keep (h.ins a<|by simpa using d) (k _ _ _ vZ e)
 by_cases e:a=i
 .subst e;simp only[Xj]at f |-;exact ha j f
 simp only[bI λe2=>e e2.symm]at f |-;exact keep (h.args a (by simpa using d) j f) (k _ _ _ vZ e)
theorem KQ{i:Nat}{x:Xe}(c:i<xs.length)(g:x.te=xs[i].te):XF pv iv (xs.set i x)=XF pv iv xs:=by
 unfold XF;have:xs=xs.set i xs[i]:=(fK c).symm;refine iG λr=>?_;have h:=Zn (f:=λi (x:Xe)=>UT (pv i) (iv i) x.te) (sz:=6) (λ_ _=>rfl) 0 xs;have d:=Zn (f:=λi (x:Xe)=>UT (pv i) (iv i) x.te) (sz:=6) (λ_ _=>rfl) 0 (xs.set i x);rw[bL]at d;by_cases j:r<xs.length*6
 .have hq:r/6<xs.length:=oM;have f:r/6<(xs.set i x).length:=by simpa using hq
  have b:r=r/6*6+r%6:=oM;have a:r%6<6:=dS _ vZ;rw[b,Xz (sz:=6) (λ_ _=>rfl) 0 _ _ f _ a,Xz (sz:=6) (λ_ _=>rfl) 0 xs _ hq _ a];by_cases e:i=r/6
  .subst e;rw[Xj,g]
  rw[bI e]
 rw[dK oM,dK oM]
theorem BE{T:Type}{l:List T}{k:Nat}{u:T}(h:l[k]?=some u):l.set k u=l:=by
 refine iG λr=>?_;by_cases e:k=r
 .subst e;let⟨a,_⟩:=cV.1 h;rw[mM a,h]
 rw[dZ e]
theorem ZW{L:Nat×Nat×Nat}{t b g n c m:Nat}{a:List Value}(h:Xv w lab L base t b (Hl g n c) m a):m=n:=by
 rcases h.own.2 with⟨e,_⟩|⟨_,_,_,e,_⟩;·cases e
 cases e;rfl
theorem Jl{L:Nat×Nat×Nat}{g q:Nat}{u:Value}(a:lab g=L):∀b,base<=b->b<w.heap.size->lab b≠L->(w.setCell ⟨g,q,none⟩ u).heap[b]?=w.heap[b]?:=λ_ _ _ c=>Below.heap_setCell _ _ _ _ λe=>c<|by rw[e];exact a
theorem ZU.setDst{i j g D c:Nat}{d:Int}(h:ZU w lab base v xs pv iv av)(f:i<xs.length)(n:j<xs[i].ps.length)(q:pv i=.slice (some ⟨g,0,none⟩) D c) :
 ZU (w.setCell ⟨g,j*2,none⟩ (.int .i64 d)) lab base v (xs.set i<|xs[i].setPhi j ⟨d,xs[i].ps[j].args⟩) pv iv av/\lab g=(2,i,0)/\w.cell? ⟨g,j*2,none⟩=some (.int .i64 xs[i].ps[j].dst)/\(∀F,w.frozen? ⟨g,F,none⟩=false):=by
 have a:=h.ps i f;rw[q]at a;have B:=ZW a;subst B;have k:=a.lab g rfl;have keep:∀{M:Nat×Nat×Nat}{t r:Nat}{u:Value}{m:Nat}{l:List Value},Xv w lab M base t r u m l->M≠(2,i,0)->Xv (w.setCell (Hk g<|j*2) (Hp d)) lab M base t r u m l:=λC p=>C.keep (λb y z e=>⟨Jl k b y z (by rw[e];exact p),e⟩);refine⟨h.upd _ (Jl k) (aZ rfl) ?_ ?_ (keep (h.ins i f) sP) λm o=>?_,k,a.cell ?_,a.thaw⟩
 .rw[KQ (x:=xs[i].setPhi j ⟨d,xs[i].ps[j].args⟩) f rfl];exact keep h.blks sP
 .rw[q]
  show Xv _ lab (2,i,0) base 106 2 _ (xs[i].ps.set j _).length (Yh (av i) (xs[i].ps.set j _));rw[bL];have x:Yh (av i) (xs[i].ps.set j ⟨d,xs[i].ps[j].args⟩)=(Yh (av i) xs[i].ps).set (j*2+0) (Hp d):=by
   unfold Yh;refine Yr (sz:=2) (λ_ _=>rfl) 0 xs[i].ps j n _ 0 _ vZ ?_ λm o p=>rfl;rfl
  rw[x];exact a.set _ _
 .have A:m<xs[i].ps.length:=by simpa [Xe.setPhi]using o
  have s:(xs[i].setPhi j ⟨d,xs[i].ps[j].args⟩).ps[m].args=xs[i].ps[m].args:=by
   by_cases e:j=m
   .subst e;simp only[Xe.setPhi,Xj]
   simp only[Xe.setPhi,bI e]
  rw[s];exact keep (h.args i f m A) sP
 unfold Yh;have:=Xz (f:=λj (E:Ph)=>[Hp E.dst,av i j]) (sz:=2) (λ_ _=>rfl) 0 _ j n 0 vZ;rw[fW]at this;rw[this,aV];rfl
theorem ZU.setArg{i j k g G c:Nat}{d:Int}(h:ZU w lab base v xs pv iv av)(f:i<xs.length)(n:j<xs[i].ps.length)(C:k<xs[i].ps[j].args.length)(s:av i j=.slice (some ⟨g,0,none⟩) G c) :
 ZU (w.setCell ⟨g,k,none⟩ (.int .i64 d)) lab base v (xs.set i<|xs[i].setPhi j ⟨xs[i].ps[j].dst,xs[i].ps[j].args.set k d⟩) pv iv av/\lab g=(4,i,j)/\w.cell? ⟨g,k,none⟩=some (.int .i64 xs[i].ps[j].args[k])/\(∀H,w.frozen? ⟨g,H,none⟩=false):=by
 have a:=h.args i f j n;rw[s]at a;have E:=ZW a;subst E;have l:=a.lab g rfl;have keep:∀{M:Nat×Nat×Nat}{u t:Nat}{x:Value}{m:Nat}{o:List Value},Xv w lab M base u t x m o->M≠(4,i,j)->Xv (w.setCell (Hk g k) (Hp d)) lab M base u t x m o:=λF r=>F.keep (λb A B e=>⟨Jl l b A B (by rw[e];exact r),e⟩);refine⟨h.upd _ (Jl l) (aZ rfl) ?_ ?_ (keep (h.ins i f) sP) λm q=>?_,l,a.cell ?_,a.thaw⟩
 .rw[KQ (x:=xs[i].setPhi j ⟨xs[i].ps[j].dst,xs[i].ps[j].args.set k d⟩) f rfl];exact keep h.blks sP
 .show Xv _ lab (2,i,0) base 106 2 _ (xs[i].ps.set j _).length (Yh (av i) (xs[i].ps.set j _))
  rw[bL];have y:Yh (av i) (xs[i].ps.set j ⟨xs[i].ps[j].dst,xs[i].ps[j].args.set k d⟩)=Yh (av i) xs[i].ps:=by
   have z:=Xz (f:=λj (p:Ph)=>[Hp p.dst,av i j]) (sz:=2) (λ_ _=>rfl) 0 _ j n 0 vZ;unfold Yh;have e2:=Yr (f:=λj (p:Ph)=>[Hp p.dst,av i j]) (f':=λj (p:Ph)=>[Hp p.dst,av i j]) (sz:=2) (λ_ _=>rfl) 0 xs[i].ps j n ⟨xs[i].ps[j].dst,xs[i].ps[j].args.set k d⟩ 0 (Hp xs[i].ps[j].dst) vZ rfl λm q r=>rfl;rw[e2];exact BE<|z.trans rfl
  rw[y];exact keep (h.ps i f) sP
 .have D:m<xs[i].ps.length:=by simpa [Xe.setPhi]using q
  by_cases e:j=m
  .subst e;simp only[Xe.setPhi,Xj];rw[s,bL];have e3:Xt (xs[i].ps[j].args.set k d)=(Xt xs[i].ps[j].args).set k (Hp d):=by unfold Xt;rw[mN]
   rw[e3];exact a.set _ _
  simp only[Xe.setPhi,bI e];exact keep (h.args i f m D) (by simp;exact λe2=>e e2.symm)
 unfold Xt;simp[C]
def Wn(w:World)(g k:Nat)(x:Yg):World:=((((w.setCell ⟨g,k,none⟩ (.int .i64 x.op)).setCell ⟨g,k+1,none⟩ (.int .i64 x.dst)).setCell ⟨g,k+2,none⟩ (.int .i64 x.a)).setCell ⟨g,k+3,none⟩ (.int .i64 x.b)).setCell ⟨g,k+4,none⟩ (.int .i64 x.imm)
theorem ZT{w:World}{g k q:Nat}{x:Yg}(h:q≠g):(Wn w g k x).heap[q]?=w.heap[q]?:=by
 unfold Wn;rw[Below.heap_setCell _ _ _ _ h,Below.heap_setCell _ _ _ _ h,Below.heap_setCell _ _ _ _ h,Below.heap_setCell _ _ _ _ h,Below.heap_setCell _ _ _ _ h]
theorem ZU.setIns{i j g J c:Nat}{x:Yg}(h:ZU w lab base v xs pv iv av)(k:i<xs.length)(n:j<xs[i].is.length)(t:iv i=.slice (some ⟨g,0,none⟩) J c) :
 ZU (Wn w g (j*5) x) lab base v (xs.set i ⟨xs[i].ps,xs[i].is.set j x,xs[i].te⟩) pv iv av/\lab g=(3,i,0)/\Jk w g (j*5) xs[i].is[j]/\(∀q,w.frozen? ⟨g,q,none⟩=false):=by
 have a:=h.ins i k;rw[t]at a;have F:=ZW a;subst F;have r:=a.lab g rfl;have s:∀b,base<=b->b<w.heap.size->lab b≠(3,i,0)->(Wn w g (j*5) x).heap[b]?=w.heap[b]?:=λb _ _ o=>by
  have K:b≠g:=λf=>o (by rw[f];exact r);exact ZT K
 have keep:∀{M:Nat×Nat×Nat}{A z:Nat}{u:Value}{m:Nat}{p:List Value},Xv w lab M base A z u m p->M≠(3,i,0)->Xv (Wn w g (j*5) x) lab M base A z u m p:=λG o=>G.keep λb C D f=>⟨s b C D (by rw[f];exact o),f⟩
 have d:∀q u,q<5->(xs[i].is[j].cells)[q]?=some u->w.cell? (Hk g<|j*5+q)=some u:=λq u hq I=>a.cell (by
  unfold YC;rw[Xz (sz:=5) (λ_ _=>rfl) 0 xs[i].is j n q hq];exact I)
 refine⟨h.upd (L:=(3,i,0)) ⟨xs[i].ps,xs[i].is.set j x,xs[i].te⟩ s (aZ rfl) ?_ (keep (h.ps i k) sP) ?_ λm E=>keep (h.args i k m E) sP,r,⟨d 0 _ oM rfl,d 1 _ oM rfl,d 2 _ oM rfl,d 3 _ oM rfl,d 4 _ oM rfl⟩,a.thaw⟩
 .rw[KQ (x:=⟨xs[i].ps,xs[i].is.set j x,xs[i].te⟩) k rfl];exact keep h.blks sP
 rw[t];show Xv _ lab (3,i,0) base 48 5 _ (xs[i].is.set j x).length (YC<|xs[i].is.set j x);rw[bL];have H:=((((a.set (j*5) (Hp x.op)).set (j*5+1) (Hp x.dst)).set (j*5+2) (Hp x.a)).set (j*5+3) (Hp x.b)).set (j*5+4) (Hp x.imm);have e:∀(L:Nat)(y:Yg),y.cells.length=5:=λ_ _=>rfl
 have B:YC (xs[i].is.set j x)=(((((YC xs[i].is).set (j*5) (Hp x.op)).set (j*5+1) (Hp x.dst)).set (j*5+2) (Hp x.a)).set (j*5+3) (Hp x.b)).set (j*5+4) (Hp x.imm):=by
  have s1:=Yr (f:=λ_ (y:Yg)=>y.cells) (f':=λ_ (y:Yg)=>y.cells) e 0 xs[i].is j n ⟨x.op,xs[i].is[j].dst,xs[i].is[j].a,xs[i].is[j].b,xs[i].is[j].imm⟩ 0 (Hp x.op) vZ rfl λ_ _ _=>rfl;have l:=λ(y:Yg)=>(show j<(xs[i].is.set j y).length by simpa using n);have s2:=Yr (f:=λ_ (y:Yg)=>y.cells) (f':=λ_ (y:Yg)=>y.cells) e 0 (xs[i].is.set j ⟨x.op,xs[i].is[j].dst,xs[i].is[j].a,xs[i].is[j].b,xs[i].is[j].imm⟩) j (l _) ⟨x.op,x.dst,xs[i].is[j].a,xs[i].is[j].b,xs[i].is[j].imm⟩ 1 (Hp x.dst) vZ (by rw[Xj];rfl) λ_ _ _=>rfl;rw[gE]at s2;have s3:=Yr (f:=λ_ (y:Yg)=>y.cells) (f':=λ_ (y:Yg)=>y.cells) e 0 (xs[i].is.set j ⟨x.op,x.dst,xs[i].is[j].a,xs[i].is[j].b,xs[i].is[j].imm⟩) j (l _) ⟨x.op,x.dst,x.a,xs[i].is[j].b,xs[i].is[j].imm⟩ 2 (Hp x.a) vZ (by rw[Xj];rfl) λ_ _ _=>rfl;rw[gE]at s3;have s4:=Yr (f:=λ_ (y:Yg)=>y.cells) (f':=λ_ (y:Yg)=>y.cells) e 0 (xs[i].is.set j ⟨x.op,x.dst,x.a,xs[i].is[j].b,xs[i].is[j].imm⟩) j (l _) ⟨x.op,x.dst,x.a,x.b,xs[i].is[j].imm⟩ 3 (Hp x.b) vZ (by rw[Xj];rfl) λ_ _ _=>rfl;rw[gE]at s4;have s5:=Yr (f:=λ_ (y:Yg)=>y.cells) (f':=λ_ (y:Yg)=>y.cells) e 0 (xs[i].is.set j ⟨x.op,x.dst,x.a,x.b,xs[i].is[j].imm⟩) j (l _) x 4 (Hp x.imm) vZ (by rw[Xj];rfl) λ_ _ _=>rfl;rw[gE]at s5;unfold YC;rw[s5,s4,s3,s2,s1,fW]
 rw[B];exact H
theorem ZU.setTerA{i g n c:Nat}{d:Int}(h:ZU w lab base (.slice (some ⟨g,0,none⟩) n c) xs pv iv av)(a:i<xs.length) :
 ZU (w.setCell ⟨g,i*6+3,none⟩ (.int .i64 d)) lab base (.slice (some ⟨g,0,none⟩) n c) (xs.set i ⟨xs[i].ps,xs[i].is,⟨xs[i].te.kind,d,xs[i].te.to,xs[i].te.els⟩⟩) pv iv av/\lab g=(1,0,0)/\(∀z,w.frozen? ⟨g,z,none⟩=false):=by
 have e:=h.blks;have s:=ZW e;subst s;have f:=e.lab g rfl;have keep:∀{M:Nat×Nat×Nat}{t l:Nat}{u:Value}{m:Nat}{j:List Value},Xv w lab M base t l u m j->M≠(1,0,0)->Xv (w.setCell (Hk g<|i*6+3) (Hp d)) lab M base t l u m j:=λy x=>y.keep λb p q k=>⟨Jl f b p q (by rw[k];exact x),k⟩
 refine⟨h.upd (L:=(1,0,0)) ⟨xs[i].ps,xs[i].is,⟨xs[i].te.kind,d,xs[i].te.to,xs[i].te.els⟩⟩ (Jl f) (bC rfl) ?_ (keep (h.ps i a) sP) (keep (h.ins i a) sP) λm r=>keep (h.args i a m r) sP,f,e.thaw⟩;have o:XF pv iv (xs.set i ⟨xs[i].ps,xs[i].is,⟨xs[i].te.kind,d,xs[i].te.to,xs[i].te.els⟩⟩)=(XF pv iv xs).set (i*6+3) (Hp d):=by
  unfold XF;refine Yr (sz:=6) (λ_ _=>rfl) 0 xs i a _ 3 _ vZ rfl λ_ _ _=>rfl
 rw[o];exact e.set _ _
theorem ZU.cells{i g n c:Nat}(h:ZU w lab base (Hl g n c) xs pv iv av)(d:i<xs.length):w.cell? (Hk g<|i*6)=some (pv i)/\w.cell? (Hk g<|i*6+1)=some (iv i)/\Va w g (i*6+2) xs[i].te:=by
 have b:=h.blks;have e:=ZW b;subst e;have a:∀q u,q<6->(UT (pv i) (iv i) xs[i].te)[q]?=some u->w.cell? (Hk g<|i*6+q)=some u:=λq u hq f=>b.cell (by
  unfold XF;rw[Xz (λ_ _=>KU _ _ _) 0 xs i d q hq,aV];exact f)
 exact⟨a 0 _ oM rfl,a 1 _ oM rfl,a 2 _ oM rfl,a 3 _ oM rfl,a 4 _ oM rfl,a 5 _ oM rfl⟩
theorem ZU.phiCells{i j g n c:Nat}(h:ZU w lab base v xs pv iv av)(d:i<xs.length)(e:j<xs[i].ps.length)(k:pv i=.slice (some ⟨g,0,none⟩) n c):w.cell? ⟨g,j*2,none⟩=some (.int .i64 xs[i].ps[j].dst)/\w.cell? ⟨g,j*2+1,none⟩=some (av i j):=by
 have a:=h.ps i d;rw[k]at a;have f:=ZW a;subst f;have b:∀q u,q<2->([Hp xs[i].ps[j].dst,av i j]:List Value)[q]?=some u->w.cell? (Hk g<|j*2+q)=some u:=λq u hq l=>a.cell (by
  unfold Yh;rw[Xz (sz:=2) (λ_ _=>rfl) 0 _ j e q hq,aV];exact l)
 exact⟨b 0 _ oM rfl,b 1 _ oM rfl⟩
end
section
theorem ZY(b:Int)(n:Nat)(w:World)(f:0<=b)(g:b<=1000000)(i:n<=1000000) :
 Calls prog 110 #[Hp b,Hp n] w λe w'=>e=.returned (Hp<|J1 b n)/\w'=w:=by
 have a:Hs (J1 b n=if b=0 then 0 else (n:Int)-b):=Xa rfl;by_cases h:b=0
 .rw[aU h]at a;have d:(b==0)=true:=by simpa using h
  go_in
  go_wp2;go_ret;rw[a.o];exact⟨rfl,rfl⟩
 rw[aM h]at a;have d:(b==0)=false:=by simpa using h
 go_in
 go_wp2;go_ret;rw[a.o];exact⟨rfl,rfl⟩
def setA(x:Yg)(v:Int):Yg:=⟨x.op,x.dst,v,x.b,x.imm⟩
def KM(xs:List Xe)(b:Nat)(v:Int)(s:Sr):List Xe×Sr :=
 if (xs.getD b XV).te.kind≠1 then (xs.set b ⟨(xs.getD b XV).ps,(xs.getD b XV).is,⟨(xs.getD b XV).te.kind,v,(xs.getD b XV).te.to,(xs.getD b XV).te.els⟩⟩,s)else (xs,s)
def U1(xs:List Xe)(b:Nat)(v:Int)(s:Sr):List Xe×Sr :=
 if 0<(xs.getD b XV).is.length then
  if aB ((xs.getD b XV).is.getD (Ax s (xs.getD b XV).is.length).1.toNat ⟨0,0,0,0,0⟩).op=true then
   (xs.set b ⟨(xs.getD b XV).ps,(xs.getD b XV).is.set (Ax s (xs.getD b XV).is.length).1.toNat (setA ((xs.getD b XV).is.getD (Ax s (xs.getD b XV).is.length).1.toNat ⟨0,0,0,0,0⟩) v),(xs.getD b XV).te⟩,(Ax s (xs.getD b XV).is.length).2)
  else KM xs b v (Ax s (xs.getD b XV).is.length).2
 else KM xs b v s
def kg(xs:List Xe)(b:Nat)(v:Int)(s:Sr):List Xe×Sr :=
 if 0<(xs.getD b XV).ps.length then
  if (Ax s 3).1=0 then
   (xs.set b<|(xs.getD b XV).setPhi 0 ⟨((xs.getD b XV).ps.getD 0 Wo).dst,((xs.getD b XV).ps.getD 0 Wo).args.set (Ax (Ax s 3).2 ((xs.getD b XV).ps.getD 0 Wo).args.length).1.toNat v⟩,(Ax (Ax s 3).2 ((xs.getD b XV).ps.getD 0 Wo).args.length).2)
  else U1 xs b v (Ax s 3).2
 else U1 xs b v s
def ZM(V:Nat)(xs:List Xe)(s:Sr):List Xe×Sr:=kg xs (Ax s xs.length).1.toNat (Ax (Ax s xs.length).2 V).1 (Ax (Ax s xs.length).2 V).2
theorem ZU.setInsA{w:World}{lab:Nat->Nat×Nat×Nat}{base:Nat}{v:Value}{xs:List Xe}{pv iv:Nat->Value}{av:Nat->Nat->Value}{i j g n c:Nat}{d:Int}(h:ZU w lab base v xs pv iv av)(f:i<xs.length)(p:j<xs[i].is.length)(r:iv i=.slice (some ⟨g,0,none⟩) n c) :
 ZU (w.setCell ⟨g,j*5+2,none⟩ (.int .i64 d)) lab base v (xs.set i ⟨xs[i].ps,xs[i].is.set j (setA xs[i].is[j] d),xs[i].te⟩) pv iv av/\lab g=(3,i,0)/\Jk w g (j*5) xs[i].is[j]/\(∀q,w.frozen? ⟨g,q,none⟩=false):=by
 have a:=h.ins i f;rw[r]at a;have D:=ZW a;subst D;have k:=a.lab g rfl;have keep:∀{M:Nat×Nat×Nat}{x t:Nat}{u:Value}{m:Nat}{l:List Value},Xv w lab M base x t u m l->M≠(3,i,0)->Xv (w.setCell (Hk g<|j*5+2) (Hp d)) lab M base x t u m l:=λF E=>F.keep λb z A o=>⟨Jl k b z A (by rw[o];exact E),o⟩
 have e:∀q u,q<5->(xs[i].is[j].cells)[q]?=some u->w.cell? (Hk g<|j*5+q)=some u:=λq u hq H=>a.cell (by
  unfold YC;rw[Xz (sz:=5) (λ_ _=>rfl) 0 xs[i].is j p q hq];exact H)
 refine⟨h.upd (L:=(3,i,0)) ⟨xs[i].ps,xs[i].is.set j (setA xs[i].is[j] d),xs[i].te⟩ (Jl k) (aZ rfl) ?_ (keep (h.ps i f) sP) ?_ λm C=>keep (h.args i f m C) sP,k,⟨e 0 _ oM rfl,e 1 _ oM rfl,e 2 _ oM rfl,e 3 _ oM rfl,e 4 _ oM rfl⟩,a.thaw⟩
 .rw[KQ (x:=⟨xs[i].ps,xs[i].is.set j (setA xs[i].is[j] d),xs[i].te⟩) f rfl];exact keep h.blks sP
 rw[r]
 show Xv _ lab (3,i,0) base 48 5 _ (xs[i].is.set j _).length (YC<|xs[i].is.set j _);rw[bL];have y:YC (xs[i].is.set j (setA xs[i].is[j] d))=(YC xs[i].is).set (j*5+2) (Hp d):=by
  unfold YC;exact Yr (sz:=5) (λ_ _=>rfl) 0 xs[i].is j p _ 2 _ vZ rfl λ_ _ _=>rfl
 rw[y];exact a.set _ _
structure IN(w wr:World)(lab:Nat->Nat×Nat×Nat)(base sb B:Nat)(s:Sr)(v G n c:Nat)(xs:List Xe)(pv iv:Nat->Value)(av:Nat->Nat->Value):Prop where
 fn:ZU wr lab base (.slice (some ⟨G,0,none⟩) n c) xs pv iv av
 dr:ZQ wr sb B s
 bb:B<=base
 os:wr.os=w.os
 tape:wr.tape=w.tape
 output:wr.output=w.output
 size:w.heap.size<=wr.heap.size
 low:∀b,b<base->b≠sb->wr.heap[b]?=w.heap[b]?
 fr:∀b,w.heap.size<=b->lab b=(0,0,0)
 bs:base<=w.heap.size
 box:Bx wr w.heap.size #[.int .i64 (v:Int),.slice (some ⟨G,0,none⟩) n c] 25
 res:Bx wr (w.heap.size+1) #[.int .i64 0,.slice none 0 0] 25
variable {w wr w': World} {lab: Nat -> Nat×Nat×Nat} {base sb B: Nat} {s s': Sr} {v G n c: Nat} {xs xs': List Xe} {pv iv: Nat -> Value} {av: Nat -> Nat -> Value}
theorem IN.lt(h:IN w wr lab base sb B s v G n c xs pv iv av):sb<base:=oP h.bb h.dr.bB
theorem IN.call(h:IN w wr lab base sb B s v G n c xs pv iv av)(g:wr.grownBy w' (some sb))(d:ZQ w' sb B s'):IN w w' lab base sb B s' v G n c xs pv iv av:=by
 have k:XW wr w' lab lab base (λ_=>True):=XW.grown g h.lt;have j:=h.lt;have i:=h.bs;have l:=h.size;exact⟨h.fn.sp k 0 (λ_ _ _ _ _=>trivial) (bC λ_ _=>trivial),d,h.bb,g.os.trans h.os,g.tape.trans h.tape,g.output.trans h.output,aJ h.size g.size,λb f a=>(g.block b oM λe=>a<|by injection e).trans (h.low b f a),h.fr,h.bs,h.box.grown g (by intro e;injection e;omega),h.res.grown g<|by intro e;injection e;omega⟩
theorem IN.alloc(h:IN w wr lab base sb B s v G n c xs pv iv av)(o:Obj):IN w (wr.alloc o) lab base sb B s v G n c xs pv iv av:=h.call (bW wr o<|some sb) (h.dr.box o)
theorem IN.drew(h:IN w wr lab base sb B s v G n c xs pv iv av):IN w wr.drew lab base sb B s v G n c xs pv iv av:=h.call ⟨rfl,rfl,rfl,aA _,λ_ _ _=>rfl⟩ h.dr.drew
theorem IN.put{g q:Nat}{u:Value}(h:IN w wr lab base sb B s v G n c xs pv iv av)(i:ZU (wr.setCell ⟨g,q,none⟩ u) lab base (.slice (some ⟨G,0,none⟩) n c) xs' pv iv av)(a:lab g≠(0,0,0))(l:base<=g):IN w (wr.setCell ⟨g,q,none⟩ u) lab base sb B s v G n c xs' pv iv av:=by
 have m:=h.bb;have j:w.heap.size≠g:=λe=>a<|h.fr g oM;have k:w.heap.size+1≠g:=λe=>a<|h.fr g oM;exact⟨i,h.dr.put oM,h.bb,h.os,h.tape,h.output,by simpa [World.setCell]using h.size,λb d f=>(Below.heap_setCell _ _ _ _<|by show b≠g;omega).trans (h.low b d f),h.fr,h.bs,h.box.other j,h.res.other k⟩
end
end Go.Proofs.YtffcajcgkblkoaaGreatDoor
