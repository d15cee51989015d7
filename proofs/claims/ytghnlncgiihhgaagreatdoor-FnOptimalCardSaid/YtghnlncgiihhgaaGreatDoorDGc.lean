import Derived.Test.YtghnlncgiihhgaaGreatDoorDL1
namespace Go.Proofs.YtghnlncgiihhgaaGreatDoor
set_option maxHeartbeats 8000000
set_option maxRecDepth 100000
open Go.RowKit Go.Proofs.Tryz
variable{l:List Int}{y:List Value}{x X:List Xe}{n m k B g:Nat}{a A:Value}{w v:World}
noncomputable def ZI(b:Bool)(n:Nat)(a:List Yj)(s:Sr):List Yj × List Int × Sr :=
 if b=true then
  if 1<n then (a++[⟨1,0,1+(nextP s ((n:Int)-1)).1,0⟩],Ke (a.map Yt)++[0],(nextP s ((n:Int)-1)).2)
  else (a++[⟨3,0,0,0⟩],Ke (a.map Yt)++[0],s)
 else (a,Ke (a.map Yt),s)
theorem zA{dead:Bool}{a:List Yj}{s:Sr}(c:a.length=n)(f:1<=n)(i:n<=1000)(h:∀j (h:j<a.length),ai n j a[j]):(ZI dead n a s).2.1.length=(ZI dead n a s).1.length/\(ZI dead n a s).1.length<=n+1/\n<=(ZI dead n a s).1.length/\∀b,0<b->b<(ZI dead n a s).1.length->∃d:Nat,(ZI dead n a s).2.1.getD b 0=(d:Int)/\d<b:=by
 have e:(Ke (a.map Yt)).length=n:=(jd _).trans (by simpa using c);have k:∀t:Yj,∀b,0<b->b<(a++[t]).length->∃d:Nat,(Ke (a.map Yt)++[0]).getD b 0=(d:Int)/\d<b:=fun t b g p=>by
  by_cases l:b<n
  ·obtain⟨d,e1,e2⟩:=rg c f i h g l
   exact⟨d,by rw[<-e1];simp[List.getD,dL (by omega:b<(Ke (a.map Yt)).length)],e2⟩
  ·refine⟨0,?_,g⟩
   simp at p;have:b=(Ke (a.map Yt)).length:=oM;subst this;simp
 unfold ZI;split
 ·split
  ·refine⟨by simp[e,c],by simp[c],by simp[c],k _⟩
  ·refine⟨by simp[e,c],by simp[c],by simp[c],k _⟩
 ·exact⟨e.trans c.symm,by show a.length<=n+1;omega,by show n<=a.length;omega,fun b m o=>rg c f i h m (by have q:b<a.length:=o;omega)⟩
theorem BZ(h:w.ownsRow n 90 6 (.slice (some ⟨m,0,none⟩) B k) x.length (XF Zz Zz x))(c:∀f∈x,f.ps=[]/\f.is=[]):Xp w n w.heap.size (some ⟨m,0,none⟩) x:=by
 have:ZU w (fun _=>(1,0,0)) n (.slice (some ⟨m,0,none⟩) B k) x Zz Zz (fun _=>Zz):=by
  refine⟨⟨h,fun _ _=>rfl⟩,fun i a=>?_,fun i a=>?_,fun i a j d=>?_⟩
  ·rw[(c _ (aH a)).1]
   exact⟨dA _ _ _ _,fun b e=>by cases e⟩
  ·rw[(c _ (aH a)).2]
   exact⟨dA _ _ _ _,fun b e=>by cases e⟩
  ·rw[(c _ (aH a)).1]at d
   exact absurd d sP
 exact this.at_
theorem KD(b:List Yj):∀x∈b.map Yt,x.ps=[]/\x.is=[]:=fun x a=>by
 obtain⟨t,_,rfl⟩:=aY.1 a;exact⟨rfl,rfl⟩
theorem tP(h:w.ownsRow n m k a B y)(c:Below w.heap.size w v):v.ownsRow n m k a B y:=Zl h (fun b e=>c.block b (h.lt b e).2)
theorem GoP.call{wr:World}{s b:Sr}(h:GoP w wr n m s k a x A l)(g:wr.grownBy v (some n))(d:ZQ v n m b):GoP w v n m b k a x A l:=by
 have c:=h.bw;have i:=h.dr.bB;have f:=h.fbb;exact⟨d,Y5 h.gr g,c,h.res.grown g (by intro e;injection e;omega),h.fbx.grown g (by intro e;injection e;omega),f,TW h.bl g oM,TW h.id g oM,h.emp⟩
theorem GoP.box{wr:World}{s:Sr}(h:GoP w wr n m s k a x A l)(o:Obj):GoP w (wr.alloc o) n m s k a x A l :=
 ⟨h.dr.box o,Y5 h.gr (bW _ _ _),h.bw,h.res.box o,h.fbx.box o,h.fbb,h.bl.alloc o,h.id.alloc o,h.emp⟩
theorem GoP.put{wr:World}{s:Sr}{u:Value}(h:GoP w wr n m s k a x A l)(d:w.heap.size<B)(hF:B≠k)(b:a.ownBlock≠some B)(c:A.ownBlock≠some B):GoP w (wr.setCell ⟨B,g,none⟩ u) n m s k a x A l:=by
 have e:=h.bw;exact⟨h.dr.put oM,XS h.gr oM,h.bw,h.res.other oM,h.fbx.other (kA hF),h.fbb,fS h.bl b u,fS h.id c u,h.emp⟩
theorem GoP.low{wr:World}{s:Sr}(h:GoP w wr n m s k a x A l)(c:Below w.heap.size wr v):ZQ v n m s/\w.grownBy v (some n) :=
 ⟨h.dr.keep (c.mono h.bw),⟨c.os.trans h.gr.os,c.tape.trans h.gr.tape,c.output.trans h.gr.output,aJ h.gr.size c.size,fun b d e=>(c.block b d).trans (h.gr.block b d e)⟩⟩
theorem GoP.pushB{wr:World}{s:Sr}{j:Value}{t:Yj}(h:GoP w wr n m s k a x j l)(d:wr.grownBy v a.ownBlock)(f:v.ownsRow w.heap.size 90 6 A B (XF Zz Zz x++[.slice none 0 0,.slice none 0 0,.int .i64 t.kind,.int .i64 t.a,.int .i64 t.to,.int .i64 t.els]))(q:B=x.length+1) :
 Bx v k #[.int .i64 0,a] 25/\GoP w (v.setCell ⟨k,1,none⟩ A) n m s k A (x++[Yt t]) j l:=by
 have p:=h.bw;have i:=h.low (Xy (Below.refl _ _) d h.bl (aA _) h.gr.size);have o:=h.res.grown d (fun e=>Z5 h.bl h.res vY e.symm);have hF:=h.fbx.grown d (fun e=>Z5 h.bl h.fbx vY e.symm);have g:=Zl h.id (fun b e=>d.block b (h.id.lt b e).2 (fun e2=>VT h.bl h.id vY e2.symm e));refine⟨hF,i.1.put (oN h.fbb),XS i.2 (dU h.fbb),p,o.other (oN h.fbb),?_,h.fbb,?_,fS g (Z5 g hF vY) A,fun r c=>?_⟩
 ·have:=hF.set 1 A
  simpa using this
 ·subst q
  unfold XF at f |-;rw[aQ,Zo];exact fS f (Z5 f hF vY) A
 ·rcases bU.1 c with c | c
  ·exact h.emp r c
  ·simp only[cH,eA,lL]at c
   subst c;exact⟨rfl,rfl⟩
theorem GoP.pushI{wr:World}{s:Sr}{f:Value}{x:Int}(h:GoP w wr n m s k a X f l)(c:wr.grownBy v f.ownBlock)(i:v.ownsRow w.heap.size 2 1 A B (Xt l++[.int .i64 x]))(g:B=l.length+1) :
 GoP w v n m s k a X A (l++[x]):=by
 have d:=h.low (Xy (Below.refl _ _) c h.id (aA _) h.gr.size);refine⟨d.1,d.2,h.bw,h.res.grown c (fun e=>Z5 h.id h.res vY e.symm),h.fbx.grown c (fun e=>Z5 h.id h.fbx vY e.symm),h.fbb,Zl h.bl (fun b e=>c.block b (h.bl.lt b e).2 (fun e2=>VT h.bl h.id vY e e2.symm)),?_,h.emp⟩;subst g;rw[aQ];have e:Xt (l++[x])=Xt l++[.int .i64 x]:=by simp[Xt]
 rw[e];exact i
section
variable {w wr w' : World} {lab lab' : Nat -> Nat × Nat × Nat} {base : Nat}
def Xe.setPhi(x:Xe)(j:Nat)(p:Ph):Xe:=⟨x.ps.set j p,x.is,x.te⟩
theorem Xj{T:Type}(a:List T)(i:Nat)(x:T)(h:i<(a.set i x).length):(a.set i x)[i]=x:=cQ h
theorem ZU.pushArg{I:Value}{a:List Xe}{k l:Nat->Value}{av:Nat->Nat->Value}(h:ZU w lab base I a k l av)(R:∀b,w.heap.size<=b->lab b=(0,0,0)){i j g C J D:Nat}(m:i<a.length)(u:j<a[i].ps.length)(B:k i=.slice (some ⟨g,0,none⟩) C J){d:Value}{x:Int}(S:w.grownBy w' (av i j).ownBlock)(Z:w'.ownsRow base 2 1 d D (Xt a[i].ps[j].args++[.int .i64 x]))(W:D=a[i].ps[j].args.length+1)(P:d.ownBlock=(av i j).ownBlock\/d.ownBlock=some w.heap.size) :
 ∃lab',ZU (w'.setCell ⟨g,j*2+1,none⟩ d) lab' base I (a.set i (a[i].setPhi j ⟨a[i].ps[j].dst,a[i].ps[j].args++[x]⟩)) k l (fun c b=>if c=i/\b=j then d else av c b)/\XW w (w'.setCell ⟨g,j*2+1,none⟩ d) lab lab' base (fun b=>lab b≠(4,i,j)/\lab b≠(2,i,0))/\w'.cell? ⟨g,j*2+1,none⟩=some (av i j)/\(∀z,w'.frozen? ⟨g,z,none⟩=false):=by
 obtain⟨lab',q,v⟩:=(h.args i m j u).grow S Z P R;have o:=h.ps i m;rw[B]at o;have Y:a[i].ps.length=C:=by
  rcases o.own.2 with⟨e,_⟩ | ⟨_,_,_,e,_⟩
  ·cases e
  ·cases e;rfl
 subst Y;have T:=o.blk.2;have p:=o.sp v (fun b e=>by rw[e];simp);have U:=p.blk.2;have y:XW w' (w'.setCell ⟨g,j*2+1,none⟩ d) lab' lab' base (fun b=>b≠g):=XW.put _ _ _;have E:∀b,lab' b≠(2,i,0)->b≠g:=fun b f e=>f (by rw[e];exact U)
 have keep:∀{L:Nat × Nat × Nat}{G F:Nat}{H:Value}{s:Nat}{A:List Value},Xv w lab L base G F H s A->L≠(4,i,j)->L≠(2,i,0)->Xv (w'.setCell ⟨g,j*2+1,none⟩ d) lab' L base G F H s A:=fun q t N=>(q.sp v (fun b e=>by rw[e];exact t)).sp y (fun b e=>E b (by rw[e];exact N))
 refine⟨lab',⟨?_,fun c ha=>?_,fun c ha=>?_,fun c ha b f=>?_⟩,?_,?_,fun z=>p.thaw z⟩
 ·have e:XF k l (a.set i (a[i].setPhi j ⟨a[i].ps[j].dst,a[i].ps[j].args++[x]⟩))=XF k l a:=by
   unfold XF;refine iG (fun r=>?_);have hl:=Zn (f:=fun i (x:Xe)=>UT (k i) (l i) x.te) (sz:=6) (fun _ _=>rfl) 0 a;have V:=Zn (f:=fun i (x:Xe)=>UT (k i) (l i) x.te) (sz:=6) (fun _ _=>rfl) 0 (a.set i (a[i].setPhi j ⟨a[i].ps[j].dst,a[i].ps[j].args++[x]⟩));rw[bL]at V;by_cases q:r<a.length*6
   ·have hq:r / 6<a.length:=oM
    have aa:r / 6<(a.set i (a[i].setPhi j ⟨a[i].ps[j].dst,a[i].ps[j].args++[x]⟩)).length:=by simpa using hq
    have K:r=r / 6*6+r % 6:=oM;have n:r % 6<6:=dS _ vY;rw[K,Xz (sz:=6) (fun _ _=>rfl) 0 _ _ aa _ n,Xz (sz:=6) (fun _ _=>rfl) 0 a _ hq _ n];by_cases e:i=r / 6
    ·subst e
     rw[Xj];rfl
    ·rw[bI e]
   ·rw[dK oM,dK oM]
  rw[e,bL];exact keep h.blks sP sP
 ·by_cases e:c=i
  ·subst e
   simp only[Xj];rw[B];show Xv _ lab' (2,c,0) base 96 2 _ (a[c].ps.set j _).length (Yh _ (a[c].ps.set j _));rw[bL];have M:Yh (fun b=>if True/\b=j then d else av c b) (a[c].ps.set j ⟨a[c].ps[j].dst,a[c].ps[j].args++[x]⟩)=(Yh (av c) a[c].ps).set (j*2+1) d:=by
    unfold Yh;refine Yr (sz:=2) (fun _ _=>rfl) 0 a[c].ps j u _ 1 d vY ?_ (fun s n X=>?_)
    ·rw[aV]
     dsimp only;rw[aU ⟨trivial,rfl⟩];rfl
    ·rw[aV]
     dsimp only;rw[aM (fun h=>X h.2)]
   rw[M];exact p.set _ _
  ·rw[bI (fun e2=>e e2.symm)]
   have O:c<a.length:=by simpa using ha
   have e2:Yh (fun b=>if c=i/\b=j then d else av c b) a[c].ps=Yh (av c) a[c].ps:=by
    unfold Yh;exact ZF 0 _ (fun s n=>by dsimp only;rw[aM (fun h=>e h.1)])
   rw[e2];exact keep (h.ps c O) sP (by simp;exact e)
 ·by_cases e:c=i
  ·subst e
   simp only[Xj];exact keep (h.ins c m) sP sP
  ·rw[bI (fun e2=>e e2.symm)]
   exact keep (h.ins c (by simpa using ha)) sP sP
 ·by_cases e:c=i
  ·subst e
   simp only[Xj]at f |-;have Q:b<a[c].ps.length:=by simpa [Xe.setPhi]using f
   by_cases e2:b=j
   ·subst e2
    simp only[Xe.setPhi,Xj];rw[aU ⟨trivial,trivial⟩];subst W;have e3:Xt (a[c].ps[b].args++[x])=Xt a[c].ps[b].args++[.int .i64 x]:=by simp[Xt]
    rw[e3,aQ];exact q.sp y (fun b e=>E b (by rw[e];simp))
   ·simp only[Xe.setPhi,bI (fun e3=>e2 e3.symm)]
    rw[aM (fun h=>e2 h.2)];exact keep (h.args c m b Q) (by simp;exact e2) sP
  ·simp only[bI (fun e2=>e e2.symm)]at f |-
   rw[aM (fun h=>e h.1)];exact keep (h.args c (by simpa using ha) b f) (by simp;intro t;exact absurd t e) sP
 ·exact(v.trans y).weak (fun b f=>⟨f.1,fun e=>f.2 (by rw[e];exact T)⟩)
 ·refine p.cell ?_
  unfold Yh;rw[Xz (sz:=2) (fun _ _=>rfl) 0 _ j u 1 vY,aV];rfl
end
section
variable {w wr w' : World} {lab lab' : Nat -> Nat × Nat × Nat} {sb B : Nat} {s s' : Sr} {fb vals G c : Nat} {xs : List Xe} {pv iv : Nat -> Value} {av : Nat -> Nat -> Value} {ve : Value} {ev : Nat -> Value} {ends : List (List Int)} {vi : Value} {ids : List Int}
def PrL(w wr:World)(lab:Nat->Nat × Nat × Nat)(d:Option Addr)(a:List Int):Prop:=∀q (h:q<a.length),∃b o,d=some ⟨b,o,none⟩/\lab b=(0,0,0)/\(w.heap.size<=b/\b<wr.heap.size)/\wr.cell? ⟨b,o+q,none⟩=some (.int .i64 a[q])
theorem PrL.sp{e:Option Addr}{f:List Int}{ok:Nat->Prop}(h:PrL w wr lab e f)(k:XW wr w' lab lab' w.heap.size ok)(j:∀b,lab b=(0,0,0)->b<wr.heap.size->ok b):PrL w w' lab' e f:=fun q hq=>by
 obtain⟨b,o,g,d,a,i⟩:=h q hq;have:=k.same b a.1 a.2 (j b d a.2);exact⟨b,o,g,this.2.trans d,⟨a.1,aX a.2 k.size⟩,(Xc this.1).trans i⟩
theorem JU.belowF(h:JU w wr lab sb B s fb vals G c xs pv iv av ve ev ends vi ids)(k:Below wr.heap.size wr w'):JU w w' lab sb B s fb vals G c xs pv iv av ve ev ends vi ids :=
 h.call ⟨k.os,k.tape,k.output,k.size,fun b a _=>k.block b a⟩ (h.dr.keep (k.mono h.dr.sB))
theorem PrL.start{d:Option Addr}{e:List Int}(h:JU w wr lab sb B s fb vals G c xs pv iv av ve ev ends vi ids)(i:Xf w' wr.heap.size w'.heap.size d e):PrL w w' lab d e:=fun q hq=>by
 obtain⟨b,o,f,a,g⟩:=i q hq;exact⟨b,o,f,h.fr b a.1,⟨aJ h.gr.size a.1,a.2⟩,g⟩
theorem JU.facts{i j g l f k o p d:Nat}(h:JU w wr lab sb B s fb vals G c xs pv iv av ve ev ends vi ids)(m:i<xs.length)(t:j<xs[i].ps.length)(n:pv i=.slice (some ⟨g,0,none⟩) f k)(r:ve=.slice (some ⟨l,0,none⟩) o p)(q:d<ends.length) :
 wr.cell? ⟨fb,1,none⟩=some (.slice (some ⟨G,0,none⟩) xs.length c)/\wr.cell? ⟨G,i*6,none⟩=some (.slice (some ⟨g,0,none⟩) f k)/\wr.cell? ⟨g,j*2+1,none⟩=some (av i j)/\wr.cell? ⟨l,d,none⟩=some (ev d):=by
 have b:=h.fn.ps i m;rw[n]at b;have v:xs[i].ps.length=f:=by
  rcases b.own.2 with⟨e,_⟩ | ⟨_,_,_,e,_⟩
  ·cases e
  ·cases e;rfl
 subst v;have a:=h.es;rw[r]at a;have u:ends.length=o:=by
  rcases a.own.2 with⟨e,_⟩ | ⟨_,_,_,e,_⟩
  ·cases e
  ·cases e;rfl
 subst u;refine⟨Bx.cell h.fbx rfl,h.fn.blks.cell ?_,b.cell ?_,a.cell ?_⟩
 ·unfold XF
  have:=Xz (f:=fun i (x:Xe)=>UT (pv i) (iv i) x.te) (sz:=6) (fun _ _=>rfl) 0 xs i m 0 vY;rw[fW,aV]at this;rw[this,<-n];rfl
 ·unfold Yh
  rw[Xz (sz:=2) (fun _ _=>rfl) 0 _ j t 1 vY,aV];rfl
 ·have:=Xz (f:=fun i (_:List Int)=>[ev i]) (sz:=1) (fun _ _=>rfl) 0 ends d q 0 vY
  rw[iN,fW,aV]at this;rw[this];rfl
theorem JU.pushArg{i j g F r q:Nat}(h:JU w wr lab sb B s fb vals G c xs pv iv av ve ev ends vi ids)(f:i<xs.length)(n:j<xs[i].ps.length)(p:pv i=.slice (some ⟨g,0,none⟩) F r){a:Value}{x:Int}(m:wr.grownBy w' (av i j).ownBlock)(C:w'.ownsRow w.heap.size 2 1 a q (Xt xs[i].ps[j].args++[.int .i64 x]))(A:q=xs[i].ps[j].args.length+1)(t:a.ownBlock=(av i j).ownBlock\/a.ownBlock=some wr.heap.size) :
 (w'.cell? ⟨g,j*2+1,none⟩=some (av i j)/\(∀H,w'.frozen? ⟨g,H,none⟩=false))/\∃lab',JU w (w'.setCell ⟨g,j*2+1,none⟩ a) lab' sb B s fb vals G c (xs.set i (xs[i].setPhi j ⟨xs[i].ps[j].dst,xs[i].ps[j].args++[x]⟩)) pv iv (fun l b=>if l=i/\b=j then a else av l b) ve ev ends vi ids/\XW wr (w'.setCell ⟨g,j*2+1,none⟩ a) lab lab' w.heap.size (fun b=>lab b≠(4,i,j)/\lab b≠(2,i,0)):=by
 obtain⟨lab',v,k,u,D⟩:=h.fn.pushArg h.fr f n p m C A t;have d:∀b,lab b=(0,0,0)->lab b≠(4,i,j)/\lab b≠(2,i,0):=fun b e=>by rw[e];simp
 have y:w.heap.size<=g:=by
  have:=h.fn.ps i f;rw[p]at this;exact(this.own.lt g rfl).1
 have o:=h.low (((h.fn.args i f j n).below m (aA _) h.gr.size).trans ((Below.refl w.heap.size w').setCell (p:=⟨g,j*2+1,none⟩) y a));refine⟨⟨u,D⟩,lab',⟨o.1,o.2,h.bw,h.res.sp k (aA _) (d _ h.resl),(k.same _ (aA _) h.res.lt (d _ h.resl)).2.trans h.resl,?_,(k.same _ (dU h.fbb) h.fbx.lt (d _ h.fbl)).2.trans h.fbl,h.fbb,?_,h.es.sp k (fun b e=>by rw[e];simp),fun E z=>(h.evs E z).sp k (fun b e=>by rw[e];simp),h.id.sp k (fun b e=>by rw[e];simp),k.fresh h.fr,h.nil_⟩,k⟩
 ·rw[bL]
  exact h.fbx.sp k (dU h.fbb) (d _ h.fbl)
 ·rw[bL]
  exact v
end
section
variable {w wr w' : World} {lab : Nat -> Nat × Nat × Nat} {sb B : Nat} {s : Sr} {fb vals G c : Nat} {xs : List Xe} {pv iv : Nat -> Value} {av : Nat -> Nat -> Value} {ve : Value} {ev : Nat -> Value} {ends : List (List Int)} {vi : Value} {ids : List Int}
theorem JU.held8{i n g a y q W K d j p k:Nat}{preds:List Int}{z:Value}(h:JU w wr lab sb B s fb vals G c xs pv iv av ve ev ends vi ids)(x:i<xs.length)(I:n<xs[i].ps.length)(J:pv i=.slice (some ⟨g,0,none⟩) y q)(H:ve=.slice (some ⟨a,0,none⟩) W K)(N:d<ends.length)(hq:PrL w wr lab (some ⟨j,p,none⟩) preds)(P:k<preds.length)(R:some z=some (Value.int .i64 preds[k]))(O:wr.grownBy w' (av i n).ownBlock) :
 (w'.cell? ⟨fb,1,none⟩=some (.slice (some ⟨G,0,none⟩) xs.length c)/\w'.cell? ⟨G,i*6,none⟩=some (.slice (some ⟨g,0,none⟩) y q)/\w'.cell? ⟨j,p+k,none⟩=some z/\w'.cell? ⟨a,d,none⟩=some (ev d)) /\
 ∀f m,((w'.setCell ⟨g,m,none⟩ f).cell? ⟨fb,1,none⟩=some (.slice (some ⟨G,0,none⟩) xs.length c)/\(w'.setCell ⟨g,m,none⟩ f).cell? ⟨G,i*6,none⟩=some (.slice (some ⟨g,0,none⟩) y q)/\(w'.setCell ⟨g,m,none⟩ f).cell? ⟨j,p+k,none⟩=some z/\(w'.setCell ⟨g,m,none⟩ f).cell? ⟨a,d,none⟩=some (ev d)):=by
 obtain⟨f1,f2,_,f4⟩:=h.facts x I J H N;obtain⟨X,Y,e,u,M,F⟩:=hq k P;cases e;rw[<-R]at F;have o:∀b,b<wr.heap.size->lab b≠(4,i,n)->w'.heap[b]?=wr.heap[b]?:=fun b L Q=>O.block b L (fun e=>Q ((h.fn.args i x n I).lab b e.symm))
 have t:=h.fn.blks.blk;have r:(w.heap.size<=a/\a<wr.heap.size)/\lab a=(6,0,0):=by
  have v:=h.es;rw[H]at v;exact⟨v.own.lt a rfl,v.lab a rfl⟩
 have l:lab g=(2,i,0):=by
  have:=h.fn.ps i x;rw[J]at this;exact this.lab g rfl
 have S:fb≠g:=fun e=>by have:=h.fbl;rw[e,l]at this;simp at this
 have T:G≠g:=fun e=>by have:=t.2;rw[e,l]at this;simp at this
 have U:j≠g:=fun e=>by rw[e,l]at u;simp at u
 have V:a≠g:=fun e=>by have:=r.2;rw[e,l]at this;simp at this
 have A:=(Xc (o:=1) (o fb h.fbx.lt (by rw[h.fbl];simp))).trans f1;have C:=(Xc (o:=i*6) (o G t.1.2 (by rw[t.2];simp))).trans f2;have D:=(Xc (o:=p+k) (o j M.2 (by rw[u];simp))).trans F;have E:=(Xc (o:=d) (o a r.1.2 (by rw[r.2];simp))).trans f4;refine⟨⟨A,C,D,E⟩,fun f m=>⟨?_,?_,?_,?_⟩⟩
 ·exact(Xc (Below.heap_setCell _ _ _ _ S)).trans A
 ·exact(Xc (Below.heap_setCell _ _ _ _ T)).trans C
 ·exact(Xc (Below.heap_setCell _ _ _ _ U)).trans D
 ·exact(Xc (Below.heap_setCell _ _ _ _ V)).trans E
end
structure X6 where
 k:Nat
 acc:List Int
 s:Sr
 tl:List Value
theorem lp6{aq:Exit->Act->World->Prop}(w:World)(o B:Nat)(z vals J y:Nat)(a:List Xe)(A u D:Nat)(e:List (List Int))(vi:Value)(ab:List Int)(pa:Option Addr)(p bv:Nat)(preds:List Int)(i j aj:Nat)(U:Sr)(c1 c2 c3 c4 c5 c6 c8 c9 a4 a5 a6 a7 a8 a9 ba bb bc:Value)(hQ:Hid (∀y (bz:Act) t v w,aq (.panic y) (bz.put (some t) v) w->aq (.panic y) bz w))(hi:i<a.length)(hj:j<a[i].ps.length)(hN:Hid (a.length=aj/\e.length=u/\preds.length=p))(d1:aj<=11/\p<=1000)(b3:Hid (a[i].ps[j].args.length<=1000))(dk:Hid (∀dw∈preds,∃f:Nat,dw=(f:Int)/\f<u))(db:Hid (∀n∈e,0<n.length/\n.length<=4000))
 (b8:∀(M:Sr)(O:List Value)(P:World),O.length=251->M=(ZD e preds U a[i].ps[j].args).2->(∃h I H av E,JU w P h o B M z vals J y (a.set i (a[i].setPhi j ⟨a[i].ps[j].dst,(ZD e preds U a[i].ps[j].args).1⟩)) I H av (.slice (some ⟨A,0,none⟩) u D) E e vi ab/\PrL w P h pa preds)->aq (.exit 10) ⟨(.pointer (some ⟨o,0,none⟩)::c1::c2::c3::c4::c5::c6::.pointer (some ⟨z,0,none⟩)::c8::c9::.slice (some ⟨A,0,none⟩) u D::a4::a5::a6::a7::a8::a9::ba::bb::bc::.int .i64 ((i:Nat):Int)::.slice pa p bv::.int .i64 ((j:Nat):Int)::.int .i64 ((p:Nat):Int)::O).toArray,[]⟩ P)
 (O:List Value) (wr:World) (hl:O.length=251) (b0:Hid (∃h I H av E,JU w wr h o B U z vals J y (a.set i (a[i].setPhi j ⟨a[i].ps[j].dst,a[i].ps[j].args⟩)) I H av (.slice (some ⟨A,0,none⟩) u D) E e vi ab/\PrL w wr h pa preds)) :
 Code.wp prog (Code.loop gB6) aq ⟨(.pointer (some ⟨o,0,none⟩)::c1::c2::c3::c4::c5::c6::.pointer (some ⟨z,0,none⟩)::c8::c9::.slice (some ⟨A,0,none⟩) u D::a4::a5::a6::a7::a8::a9::ba::bb::bc::.int .i64 ((i:Nat):Int)::.slice pa p bv::.int .i64 ((j:Nat):Int)::.int .i64 ((0:Nat):Int)::O).toArray,[]⟩ wr:=by
 have HX:=Xa b8;clear b8;obtain⟨j0,dd,dl,dn,ds⟩:=Xq Tryz.info2';refine iY (fun a' wr=>∃x:X6,a'=⟨(.pointer (some ⟨o,0,none⟩)::c1::c2::c3::c4::c5::c6::.pointer (some ⟨z,0,none⟩)::c8::c9::.slice (some ⟨A,0,none⟩) u D::a4::a5::a6::a7::a8::a9::ba::bb::bc::.int .i64 ((i:Nat):Int)::.slice pa p bv::.int .i64 ((j:Nat):Int)::.int .i64 ((x.k:Nat):Int)::x.tl).toArray,[]⟩/\x.tl.length=251/\x.k<=p/\Hid (ZD e (preds.drop x.k) x.s x.acc=ZD e preds U a[i].ps[j].args/\x.acc.length<=1000+x.k)/\Hid (∃h I H av E,JU w wr h o B x.s z vals J y (a.set i (a[i].setPhi j ⟨a[i].ps[j].dst,x.acc⟩)) I H av (.slice (some ⟨A,0,none⟩) u D) E e vi ab/\PrL w wr h pa preds)) (fun a' _=>p-(intOf (a'.tmps.getD 23 undef)).toNat) ⟨⟨0,a[i].ps[j].args,U,O⟩,rfl,hl,aN _,Xa ⟨by rw[List.drop_zero],by have:=b3.out;show a[i].ps[j].args.length<=1000+0;omega⟩,b0⟩ ?_;clear b0 hl b3;rintro a' wr ⟨⟨k,d,M,O⟩,rfl,hl,hk,HE,HS⟩;dsimp only at hl hk HE HS |-
 conv=>arg 2;whnf
 obtain⟨d0,rfl⟩:=spr O hl;clear hl;by_cases d5:k<p
 ·have di:(k:Int)<p:=oM
  have ap:k<preds.length:=oN hN.out
  obtain⟨h,I,H,av,E,hF,hP⟩:=HS.out;obtain⟨bp,op,cw,cz,cx,b6⟩:=hP k ap;obtain⟨f,c,da⟩:=dk preds[k] (aH ap);have s:f<e.length:=oN hN.out
  subst cw;have af:Hid (∀h W,PrL w W h (some ⟨bp,op,none⟩) preds->W.cell? ⟨bp,op+k,none⟩=some (.int .i64 (f:Int))):=Xa (fun h W hp=>by
   obtain⟨b',o',n,_,_,hc⟩:=hp k ap;cases n;rw[<-c];exact hc)
  have q:i<(a.set i (a[i].setPhi j ⟨a[i].ps[j].dst,d⟩)).length:=by simpa using hi
  have cd:(a.set i (a[i].setPhi j ⟨a[i].ps[j].dst,d⟩))[i]=a[i].setPhi j ⟨a[i].ps[j].dst,d⟩:=Xj _ _ _ _;have C:j<(a.set i (a[i].setPhi j ⟨a[i].ps[j].dst,d⟩))[i].ps.length:=by rw[cd];simpa [Xe.setPhi]using hj
  have L:(a.set i (a[i].setPhi j ⟨a[i].ps[j].dst,d⟩)).length=aj:=by rw[bL];exact hN.1
  have ay:((a.set i (a[i].setPhi j ⟨a[i].ps[j].dst,d⟩))[i].ps[j]).args=d:=by simp only[Xe.setPhi,Xj]
  have ct:Hid (((a.set i (a[i].setPhi j ⟨a[i].ps[j].dst,d⟩))[i].ps[j]).dst=a[i].ps[j].dst):=Xa (by simp only[Xe.setPhi,Xj]);obtain⟨ar,cp,br⟩:=(hF.fn.ps i q).got oM;obtain⟨np,cc⟩:∃np,np=(a.set i (a[i].setPhi j ⟨a[i].ps[j].dst,d⟩))[i].ps.length:=⟨_,rfl⟩;rw[<-cc]at br;have G:=br;obtain⟨aa,ac,bi⟩:=(hF.fn.args i q j C).form;obtain⟨al,b4⟩:∃al,al=((a.set i (a[i].setPhi j ⟨a[i].ps[j].dst,d⟩))[i].ps[j]).args.length:=⟨_,rfl⟩;rw[<-b4]at bi;have r:=bi;obtain⟨ea,ec,bn⟩:=(hF.evs f s).form;obtain⟨T,bm⟩:∃T,T=e[f].length:=⟨_,rfl⟩;rw[<-bm]at bn;have F:=bn;obtain⟨X3,b1⟩:∃a3,a3=nextP M 3:=⟨_,rfl⟩;obtain⟨az,s1⟩:=X3;have bs:=b1.symm;obtain⟨X4,b2⟩:∃a3,a3=YI s1 e[f] (az != 0):=⟨_,rfl⟩;obtain⟨X,s2⟩:=X4;have ax:=b2.symm;clear b1 b2;have ck:Hid (ZD e (preds.drop (k+1)) s2 (d++[X])=ZD e preds U a[i].ps[j].args/\(d++[X]).length<=1000+(k+1)):=Xa (by
   have h1:=HE.out;rw[gZ ap,ZD,c,dM,show e.getD f []=e[f] by simp[s],bs]at h1;dsimp only at h1;rw[ax]at h1;exact⟨h1.1,by rw[aQ];show d.length+1<=_;omega⟩)
  have a2:Hid (∀W N,JU w W h o B N z vals J y (a.set i (a[i].setPhi j ⟨a[i].ps[j].dst,d⟩)) I H av (.slice (some ⟨A,0,none⟩) u D) E e vi ab->Xf W w.heap.size W.heap.size ea e[f]):=Xa (fun W N hh=>by
   have:=hh.evs f s;rw[F]at this;exact this.ints)
  have cq:Hid (∀W N,JU w W h o B N z vals J y (a.set i (a[i].setPhi j ⟨a[i].ps[j].dst,d⟩)) I H av (.slice (some ⟨A,0,none⟩) u D) E e vi ab->W.ownsRow w.heap.size 2 1 (.slice aa al ac) d.length (Xt d)):=Xa (fun W N hh=>by
   have:=(hh.fn.args i q j C).own;rw[r,ay]at this;exact this)
  have a1:Hid (∀W N,JU w W h o B N z vals J y (a.set i (a[i].setPhi j ⟨a[i].ps[j].dst,d⟩)) I H av (.slice (some ⟨A,0,none⟩) u D) E e vi ab->w.heap.size<=ar/\ar<W.heap.size):=Xa (fun W N hh=>by
   have:=hh.fn.ps i q;rw[G]at this;exact this.own.lt ar rfl)
  have cv:Hid (((a.set i (a[i].setPhi j ⟨a[i].ps[j].dst,d⟩))).set i ((a.set i (a[i].setPhi j ⟨a[i].ps[j].dst,d⟩))[i].setPhi j ⟨((a.set i (a[i].setPhi j ⟨a[i].ps[j].dst,d⟩))[i].ps[j]).dst,((a.set i (a[i].setPhi j ⟨a[i].ps[j].dst,d⟩))[i].ps[j]).args++[X]⟩)=(a.set i (a[i].setPhi j ⟨a[i].ps[j].dst,(d++[X])⟩))):=Xa (by
   rw[ct.out,ay,cd,gE];simp[Xe.setPhi])
  have bw:Hid (d.length<=2000):=Xa (oN HE.2);have a0:=Xa bm;have bl:T<=5000:=oN (db _ (aH s))
  have ci:Hid (some (Value.int .i64 (f:Int))=some (Value.int .i64 preds[k])):=Xa (by rw[c]);have bt:=hF.lt;have d4:j<np:=oM;have d3:i<aj:=oN hN.out
  have d2:=da;obtain⟨x1,x2,x3,x4⟩:=hF.facts q C G rfl s;rw[L]at x1;rw[r]at x3;rw[F]at x4;have x5:wr.cell? ⟨bp,op+k,none⟩=some (.int .i64 (f:Int)):=by rw[<-c];exact b6
  have Y:=Xa (hF.belowF (Below.refl _ _).drew);have bx:Hid (PrL w wr.drew h (some ⟨bp,op,none⟩) preds):=Xa hP;clear hF hP HS br bi bn b6 cx cz bm c b4 cc
  go_wp2_with fail
  refine Y7 (fun P=>P.cell? ⟨z,1,none⟩=some (.slice (some ⟨J,0,none⟩) aj y)/\P.cell? ⟨J,i*6,none⟩=some (.slice (some ⟨ar,0,none⟩) np cp)/\P.cell? ⟨bp,op+k,none⟩=some (.int .i64 (f:Int))/\P.cell? ⟨A,f,none⟩=some (.slice ea T ec)) (fun hHeld=>?_);refine X0 0 ?_;refine X0 1 ?_;refine X0 2 ?_;refine X0 3 ?_;refine X0 4 ?_;refine X0 5 ?_;refine X0 6 ?_;refine X0 7 ?_;refine X0 8 ?_;refine X0 9 ?_;refine X0 10 ?_;refine X0 11 ?_;refine X0 12 ?_;refine X0 13 ?_;refine X0 14 ?_;refine X0 15 ?_;refine X0 17 ?_;refine X0 18 ?_;refine X0 19 ?_;refine X0 20 ?_;refine X0 21 ?_;refine X0 22 ?_;refine X0 23 ?_;refine X0 24 ?_;refine X0 25 ?_;refine X0 26 ?_;refine eS (rs:=[16,27]) vZ sP ?_;refine(bQ rfl (fun K hK=>?_) (bQ rfl (fun K hK=>?_) dY))
  focus
   go_simp;refine hK _ _ kP (fun hHeld=>?_);clear hK
   try simp only[xX]
   refine Xs 27 (fun K hK=>?_);go_simp
   go_at_call 29
   refine(XC o B M 3 _ (Xa Y.dr) oM oM).mono ?_;rintro n V ⟨rfl,c,g⟩;rw[bs]at c |-;dsimp only at c |-;have l:=Xa (Y.call g c);have Z:=Xa (bx.sp (XW.grown g Y.lt) (fun _ _ _=>trivial));obtain⟨y1,y2,y3,y4⟩:=l.facts q C G rfl s;rw[L]at y1;rw[r]at y3;rw[F]at y4;have y5:=af _ _ Z;clear c g;refine hK _ _ ⟨y1,y2,y5,y4⟩ (fun hHeld=>?_);clear hK;refine X0 28 ?_;refine Xs 29 (fun K hK=>?_);go_simp
   go_at_call 69
   have ad:=Xa (a2.out _ _ l);refine(JA o B s1 ea T ec e[f] w.heap.size V.heap.size (az != 0) V (Xa l.dr) ad a0 bl bt (aA _)).mono ?_;rintro n w2 ⟨rfl,c,g⟩;rw[ax]at c |-;dsimp only at c |-;have m:=Xa (l.call g c);have S:=Xa (Z.sp (XW.grown g l.lt) (fun _ _ _=>trivial));obtain⟨Q,z2,z3,R⟩:=m.facts q C G rfl s;rw[L]at Q;rw[r]at z3;rw[F]at R;have z5:=af _ _ S;have cf:=m.gr.size;have cb:=(a1 _ _ m).2;clear c g;refine hK _ _ ⟨Q,z2,z5,R⟩ (fun hHeld=>?_);clear hK;refine Xs 30 (fun K hK=>?_);go_simp;refine hK _ _ kP (fun hHeld=>?_);clear hK
  rotate_left
  focus
   go_simp
   go_at_call 29
   refine(XC o B M 3 _ (Xa Y.dr) oM oM).mono ?_;rintro n V ⟨rfl,c,g⟩;rw[bs]at c |-;dsimp only at c |-;have l:=Xa (Y.call g c);have Z:=Xa (bx.sp (XW.grown g Y.lt) (fun _ _ _=>trivial));obtain⟨y1,y2,y3,y4⟩:=l.facts q C G rfl s;rw[L]at y1;rw[r]at y3;rw[F]at y4;have y5:=af _ _ Z;clear c g;refine hK _ _ ⟨y1,y2,y5,y4⟩ (fun hHeld=>?_);clear hK
   try simp only[xX]
   refine X0 28 ?_;refine eS (rs:=[16,29]) vZ sP ?_;refine(bQ rfl (fun K hK=>?_) (bQ rfl (fun K hK=>?_) dY))
  focus
   go_simp;refine hK _ _ kP (fun hHeld=>?_);clear hK
   try simp only[xX]
   refine Xs 29 (fun K hK=>?_);go_simp
   go_at_call 69
   have ad:=Xa (a2.out _ _ l);refine(JA o B s1 ea T ec e[f] w.heap.size V.heap.size (az != 0) V (Xa l.dr) ad a0 bl bt (aA _)).mono ?_;rintro n w2 ⟨rfl,c,g⟩;rw[ax]at c |-;dsimp only at c |-;have m:=Xa (l.call g c);have S:=Xa (Z.sp (XW.grown g l.lt) (fun _ _ _=>trivial));obtain⟨Q,z2,z3,R⟩:=m.facts q C G rfl s;rw[L]at Q;rw[r]at z3;rw[F]at R;have z5:=af _ _ S;have cf:=m.gr.size;have cb:=(a1 _ _ m).2;clear c g;refine hK _ _ ⟨Q,z2,z5,R⟩ (fun hHeld=>?_);clear hK;refine Xs 30 (fun K hK=>?_);go_simp;refine hK _ _ kP (fun hHeld=>?_);clear hK
  rotate_left
  focus
   go_simp
   go_at_call 69
   have ad:=Xa (a2.out _ _ l);refine(JA o B s1 ea T ec e[f] w.heap.size V.heap.size (az != 0) V (Xa l.dr) ad a0 bl bt (aA _)).mono ?_;rintro n w2 ⟨rfl,c,g⟩;rw[ax]at c |-;dsimp only at c |-;have m:=Xa (l.call g c);have S:=Xa (Z.sp (XW.grown g l.lt) (fun _ _ _=>trivial));obtain⟨Q,z2,z3,R⟩:=m.facts q C G rfl s;rw[L]at Q;rw[r]at z3;rw[F]at R;have z5:=af _ _ S;have cf:=m.gr.size;have cb:=(a1 _ _ m).2;clear c g;refine hK _ _ ⟨Q,z2,z5,R⟩ (fun hHeld=>?_);clear hK
   try simp only[xX]
   refine eS (rs:=[16,30]) vZ sP ?_;refine(bQ rfl (fun K hK=>?_) (bQ rfl (fun K hK=>?_) dY))
  focus
   go_simp;refine hK _ _ kP (fun hHeld=>?_);clear hK
   try simp only[xX]
   refine Xs 30 (fun K hK=>?_);go_simp;refine hK _ _ kP (fun hHeld=>?_);clear hK
  rotate_left
  focus
   go_simp;refine hK _ _ kP (fun hHeld=>?_);clear hK
   try simp only[xX]
   refine Xs 16 (fun K hK=>?_);go_simp;refine hK _ _ kP (fun hHeld=>?_);clear hK
  all_goals (
   refine Xs 31 (fun K hK=>?_);refine YL rfl _ _ 27 rfl w.heap.size 2 j0 (.int .i64 0) 1 8 underlying27 dd dl dn ds rfl vY (.slice aa al ac) d.length (Xt d) rfl ?s1 ⟨w2.heap.size,0,none⟩ 1 1 [.int .i64 X] rfl rfl ?s2 ?s3 ?s4 ?s5 ?s6 ?_
   case s1=>exact(cq _ _ m).alloc _
   case s2=>exact Yf _ _ _
   case s3=>intro ed hu;simp at hu;subst hu;rfl
   case s4=>unfold maxLen;have:=bw.out;omega
   case s5=>have:=bw.out;omega
   case s6=>simp;omega
   intro v8 w8 bq bo dj b5;obtain⟨bd,bf⟩:=(m.box _).held8 q C G rfl s (S.sp (XW.box _) (fun _ _ _=>trivial)) ap ci (by rw[r];exact bo);obtain⟨⟨b7,du⟩,eb,b9,ch⟩:=(m.box _).pushArg (x:=X) q C G (by rw[r];exact bo) (by rw[ay];exact bq) (by rw[ay]) (by rw[r];simpa using b5);have cl:=Xa ((S.sp (XW.box _) (fun _ _ _=>trivial)).sp ch (fun b n _=>by rw[n];simp));rw[L,F]at bd;simp only[L,F]at bf;rw[r]at b7;have cr:=Xa bd;have cs:=Xa bf;have cj:=Xa b9;obtain⟨g8,c8,rfl,dc,c7⟩:=Xm bq oM;clear bd bf b9 ch dc c7 dj b5 bq bo;refine hK _ _ cr (fun hHeld=>?_);clear hK;refine X0 32 ?_;refine X0 33 ?_;refine Xs 34 (fun K hK=>?_);go_simp;refine hK _ _ (cs _ _) (fun hHeld=>?_);clear hK;refine Yq ?_;clear hHeld b7 du
   go_wp2_with fail
   refine⟨⟨⟨k+1,d++[X],s2,_⟩,rfl,rfl,(by show k+1<=p;omega),ck,Xa ?_⟩,by simp[intOf];omega⟩;have ca:=cj.out;rw[cv.out]at ca;exact⟨_,_,_,_,_,ca,cl⟩)
 ·have di:¬(k:Int)<p:=oM
  have df:k=p:=oM;subst df
  go_wp2_with fail
  have n:=HE.1;rw[List.drop_of_length_le (oN hN.out)]at n;have e1:(d,M)=ZD e preds U a[i].ps[j].args:=n;refine HX M _ _ rfl (by rw[<-e1]) ?_;rw[<-e1];exact HS
structure X5 where
 j:Nat
 k:Nat
 ps:List Ph
 s:Sr
 c23:Value
 tl:List Value
theorem lp5{Q:Exit->Act->World->Prop}(w:World)(v D:Nat)(k vals G d:Nat)(a:List Xe)(o h n:Nat)(c:List (List Int))(R:Value)(O:List Int)(r:Option Addr)(z P:Nat)(preds:List Int)(i N:Nat)(u:Sr)(c1 c2 c3 c4 c5 c6 c8 c9 T U V W X Y Z aa ab:Value)(hQ:Hid (∀d (F:Act) al ap w,Q (.panic d) (F.put (some al) ap) w->Q (.panic d) F w))(hi:i<a.length)(hN:Hid (a.length=N/\c.length=h/\preds.length=z))(a5:N<=11/\z<=1000)(ay:Hid (∀bi∈a[i].ps,bi.args=[]))(bd:Hid (∀bl∈preds,∃aq:Nat,bl=(aq:Int)/\aq<h))(a6:Hid (∀ar∈c,0<ar.length/\ar.length<=4000))(bc:Hid (a[i].ps.length<=1000))
 (az:∀(s:Sr)(a3 A:Value)(e:List Value)(S:World),e.length=251->s=(JC c preds a[i].ps.length 0 a[i].ps u).2->(∃g t q av y,JU w S g v D s k vals G d (a.set i ⟨(JC c preds a[i].ps.length 0 a[i].ps u).1,a[i].is,a[i].te⟩) t q av (.slice (some ⟨o,0,none⟩) h n) y c R O/\PrL w S g r preds)->Q (.exit 8) ⟨(.pointer (some ⟨v,0,none⟩)::c1::c2::c3::c4::c5::c6::.pointer (some ⟨k,0,none⟩)::c8::c9::.slice (some ⟨o,0,none⟩) h n::T::U::V::W::X::Y::Z::aa::ab::.int .i64 ((i:Nat):Int)::.slice r z P::a3::A::e).toArray,[]⟩ S)
 (A:Value) (e:List Value) (wr:World) (f:e.length=251) (I:Hid (∃g t q av y,JU w wr g v D u k vals G d (a.set i ⟨a[i].ps,a[i].is,a[i].te⟩) t q av (.slice (some ⟨o,0,none⟩) h n) y c R O/\PrL w wr g r preds)) :
 Code.wp prog (Code.loop gB5) Q ⟨(.pointer (some ⟨v,0,none⟩)::c1::c2::c3::c4::c5::c6::.pointer (some ⟨k,0,none⟩)::c8::c9::.slice (some ⟨o,0,none⟩) h n::T::U::V::W::X::Y::Z::aa::ab::.int .i64 ((i:Nat):Int)::.slice r z P::.int .i64 ((0:Nat):Int)::A::e).toArray,[]⟩ wr:=by
 have HX:=Xa az;clear az;obtain⟨M,J⟩:∃M,M=a[i].ps.length:=⟨_,rfl⟩;refine iY (fun H wr=>∃x:X5,H=⟨(.pointer (some ⟨v,0,none⟩)::c1::c2::c3::c4::c5::c6::.pointer (some ⟨k,0,none⟩)::c8::c9::.slice (some ⟨o,0,none⟩) h n::T::U::V::W::X::Y::Z::aa::ab::.int .i64 ((i:Nat):Int)::.slice r z P::.int .i64 ((x.j:Nat):Int)::x.c23::x.tl).toArray,[]⟩/\x.tl.length=251/\x.j+x.k=M/\Hid (JC c preds x.k x.j x.ps x.s=JC c preds a[i].ps.length 0 a[i].ps u/\x.ps.length=M/\∀m (K:m<x.ps.length),x.j<=m->x.ps[m].args=[])/\Hid (∃g t q av y,JU w wr g v D x.s k vals G d (a.set i ⟨x.ps,a[i].is,a[i].te⟩) t q av (.slice (some ⟨o,0,none⟩) h n) y c R O/\PrL w wr g r preds)) (fun H _=>M-(intOf (H.tmps.getD 22 undef)).toNat) ⟨⟨0,M,a[i].ps,u,A,e⟩,rfl,f,by show 0+M=M;omega,Xa ⟨by rw[J],J.symm,fun m K _=>ay _ (aH K)⟩,I⟩ ?_;have HM:=Xa J;clear I f ay J;rintro H wr ⟨⟨j,C,b,s,A,e⟩,rfl,f,a8,l,E⟩;dsimp only at f a8 l E |-
 conv=>arg 2;whnf
 obtain⟨a4,rfl⟩:=spr e f;clear f;obtain⟨g,t,q,av,y,hF,hP⟩:=E.out;have ac:i<(a.set i ⟨b,a[i].is,a[i].te⟩).length:=by simpa using hi
 have B:(a.set i ⟨b,a[i].is,a[i].te⟩)[i]=⟨b,a[i].is,a[i].te⟩:=Xj _ _ _ _;have ax:(a.set i ⟨b,a[i].is,a[i].te⟩).length=N:=by rw[bL];exact hN.1
 have x1:wr.cell? ⟨k,1,none⟩=some (.slice (some ⟨G,0,none⟩) N d):=by rw[<-ax];exact Bx.cell hF.fbx rfl
 obtain⟨gp,cp,L⟩:=(hF.fn.ps i ac).form;rw[B]at L;have af:=l.2.1;rw[show(⟨b,a[i].is,a[i].te⟩:Xe).ps.length=M from af]at L;have x2:wr.cell? ⟨G,i*6,none⟩=some (.slice gp M cp):=by
  refine hF.fn.blks.cell ?_;unfold XF;have:=Xz (f:=fun i (x:Xe)=>UT (t i) (q i) x.te) (sz:=6) (fun _ _=>rfl) 0 _ i ac 0 vY;rw[fW,aV]at this;rw[this,<-L];rfl
 have bn:i<N:=oN hN.out
 have bm:M<=1000:=oP bc.out HM.out
 clear hF hP L;cases C with
 | succ C =>
  have ba:(j:Int)<M:=oM;have ad:j<b.length:=oM;have a7:j<(a.set i ⟨b,a[i].is,a[i].te⟩)[i].ps.length:=by rw[B];exact ad
  have aj:(a.set i ⟨b,a[i].is,a[i].te⟩)[i].ps[j]=b[j]:=by simp only[B]
  clear af
  go_wp2_with fail
  refine lp6 w v D k vals G d (a.set i ⟨b,a[i].is,a[i].te⟩) o h n c R O r z P preds i j N s _ _ _ _ _ _ _ _ _ _ _ _ _ _ _ _ _ (by exact Xa (fun d F al ap w I=>hQ d F al ap w I)) ac a7 (Xa ⟨ax,hN.2⟩) a5 (Xa (by rw[aj,l.2.2 j ad (aA _)];simp)) bd a6 ?_ _ _ (by rfl) (Xa ?_)
  ·intro s' e S f a0 p
   obtain⟨a4,rfl⟩:=spr e f;clear f;have HF:=Xa p;have a2:=Xa a0;clear p a0 x1 x2
   go_wp2_with fail
   have e0:b.getD j Wo=b[j]:=by simp[ad]
   have e1:JC c preds C (j+1) (b.set j ⟨b[j].dst,(ZD c preds s b[j].args).1⟩) (ZD c preds s b[j].args).2=JC c preds a[i].ps.length 0 a[i].ps u:=by
    have:=l.1;rw[JC,e0]at this;exact this
   have p:=HF.out;have a1:=a2.out;rw[aj]at p a1;rw[a1]at p;rw[show((a.set i ⟨b,a[i].is,a[i].te⟩)).set i ((a.set i ⟨b,a[i].is,a[i].te⟩)[i].setPhi j ⟨b[j].dst,(ZD c preds s b[j].args).1⟩)=(a.set i ⟨(b.set j ⟨b[j].dst,(ZD c preds s b[j].args).1⟩),a[i].is,a[i].te⟩) from by rw[B,gE];rfl]at p;refine⟨⟨⟨j+1,C,b.set j ⟨b[j].dst,(ZD c preds s b[j].args).1⟩,(ZD c preds s b[j].args).2,_,_⟩,rfl,rfl,(by show j+1+C=M;omega),Xa ⟨e1,by show(b.set j _).length=M;rw[bL];exact l.2.1,fun m K a9=>?_⟩,Xa p⟩,by simp[intOf];omega⟩;have bb:m<b.length:=by simpa using K
   have bo:j+1<=m:=a9;show(b.set j _)[m].args=[];rw[bI oM];exact l.2.2 m bb oM
  ·have bf:=E.out
   have e3:((a.set i ⟨b,a[i].is,a[i].te⟩)).set i ((a.set i ⟨b,a[i].is,a[i].te⟩)[i].setPhi j ⟨((a.set i ⟨b,a[i].is,a[i].te⟩)[i].ps[j]).dst,((a.set i ⟨b,a[i].is,a[i].te⟩)[i].ps[j]).args⟩)=(a.set i ⟨b,a[i].is,a[i].te⟩):=by
    rw[aj,B,gE];show a.set i ⟨b.set j b[j],a[i].is,a[i].te⟩=_;rw[fK]
   rw[e3];exact bf
 | zero =>
  have ba:¬(j:Int)<M:=oM;clear af
  go_wp2_with fail
  have e1:(b,s)=JC c preds a[i].ps.length 0 a[i].ps u:=l.1;refine HX s _ _ _ _ rfl (by rw[<-e1]) ?_;rw[<-e1];exact E
theorem oQ:∀(a:List Xe)(i:Nat)(b q:Int),q∈predsFrom a i b->∃d:Nat,q=(d:Int)/\i<=d/\d<i+a.length
 | [],_,_,_,h=>by simp[predsFrom]at h
 | x::a,i,b,q,h=>by
  rw[predsFrom]at h;rcases bU.1 h with h | h
  ·split at h
   ·simp only[cH,eA,lL]at h
    exact⟨i,h,aA _,sP⟩
   ·simp at h
  ·obtain⟨d,e,c,f⟩:=oQ a (i+1) b q h
   exact⟨d,e,oM,by rw[bA];omega⟩
theorem JP:∀(a:List Xe)(i:Nat)(b:Int),(predsFrom a i b).length<=a.length
 | [],_,_=>by simp[predsFrom]
 | x::a,i,b=>by
  rw[predsFrom,aQ,bA];have:=JP a (i+1) b;split
  ·simp only[bA,bO]
   omega
  ·simp only[bO]
   omega
structure X4 where
 i:Nat
 k:Nat
 xs:List Xe
 s:Sr
 c21:Value
 c22:Value
 c23:Value
 tl:List Value
theorem lp4{Q:Exit->Act->World->Prop}(w:World)(o B:Nat)(f vals G c:Nat)(j:List Xe)(l h k:Nat)(b:List (List Int))(I:Value)(H:List Int)(N:Nat)(n:Sr)(c1 c2 c3 c4 c5 V W X K L M O P R S T U:Value)(hQ:Hid (∀c (C:Act) ab ac w,Q (.panic c) (C.put (some ab) ac) w->Q (.panic c) C w))(Y:Hid (j.length=N/\b.length=h/\h=N))(ba:N<=11)(al:Hid (∀x∈j,x.ps.length<=1000/\∀p∈x.ps,p.args=[]))(bb:Hid (∀v∈b,0<v.length/\v.length<=4000))
 (aq:∀(s:Sr)(u q r:Value)(e:List Value)(w':World),e.length=251->s=(ZL b N 0 j n).2->GoA w w' o B ⟨(ZL b N 0 j n).1,b,vals,s⟩ f G c (.slice (some ⟨l,0,none⟩) h k) I H->Q (.exit 6) ⟨(.pointer (some ⟨o,0,none⟩)::c1::c2::c3::c4::c5::V::.pointer (some ⟨f,0,none⟩)::W::X::.slice (some ⟨l,0,none⟩) h k::K::L::M::O::P::R::S::T::U::.int .i64 ((N:Nat):Int)::u::q::r::e).toArray,[]⟩ w')
 (u q r:Value) (e:List Value) (wr:World) (g:e.length=251) (E:Hid (GoA w wr o B ⟨j,b,vals,n⟩ f G c (.slice (some ⟨l,0,none⟩) h k) I H)) :
 Code.wp prog (Code.loop gB4) Q ⟨(.pointer (some ⟨o,0,none⟩)::c1::c2::c3::c4::c5::V::.pointer (some ⟨f,0,none⟩)::W::X::.slice (some ⟨l,0,none⟩) h k::K::L::M::O::P::R::S::T::U::.int .i64 ((0:Nat):Int)::u::q::r::e).toArray,[]⟩ wr:=by
 have HX:=Xa aq;clear aq;refine iY (fun D wr=>∃x:X4,D=⟨(.pointer (some ⟨o,0,none⟩)::c1::c2::c3::c4::c5::V::.pointer (some ⟨f,0,none⟩)::W::X::.slice (some ⟨l,0,none⟩) h k::K::L::M::O::P::R::S::T::U::.int .i64 ((x.i:Nat):Int)::x.c21::x.c22::x.c23::x.tl).toArray,[]⟩/\x.tl.length=251/\x.i+x.k=N/\Hid (ZL b x.k x.i x.xs x.s=ZL b N 0 j n/\x.xs.length=N/\∀m (F:m<x.xs.length),x.i<=m->x.xs[m].ps.length<=1000/\∀p∈x.xs[m].ps,p.args=[])/\Hid (GoA w wr o B ⟨x.xs,b,vals,x.s⟩ f G c (.slice (some ⟨l,0,none⟩) h k) I H)) (fun D _=>N-(intOf (D.tmps.getD 20 undef)).toNat) ⟨⟨0,N,j,n,u,q,r,e⟩,rfl,g,by show 0+N=N;omega,Xa ⟨rfl,Y.1,fun m F _=>al _ (aH F)⟩,E⟩ ?_;clear E g al;rintro D wr ⟨⟨i,z,a,s,u,q,r,e⟩,rfl,g,bd,d,J⟩;dsimp only at g bd d J |-
 conv=>arg 2;whnf
 obtain⟨a9,rfl⟩:=spr e g;clear g;obtain⟨bs,pv,iv,av,ev,hF⟩:=J.out;dsimp only at hF;have x1:wr.cell? ⟨f,1,none⟩=some (.slice (some ⟨G,0,none⟩) N c):=by rw[<-d.2.1];exact Bx.cell hF.fbx rfl
 have x0:Cl wr f 0 (.int .i64 (vals:Int)):=Bx.cell hF.fbx rfl;have ad:=Xa hF.fn.at_;have t:=Xa hF;clear hF;cases z with
 | succ z =>
  have bi:(i:Int)<N:=oM;have y:i<a.length:=oN d.out
  have A:=Xa d.2.1.symm
  go_wp2_with fail
  refine(ZE vals (some ⟨G,0,none⟩) N c (i:Int) a w.heap.size wr.heap.size wr ad A oM (aA _)).mono ?_;rintro v w1 ⟨pa,bo,rfl,ap,ay⟩;have aj:=Xa (PrL.start t ay);have a2:=Xa (t.belowF ap);have Z:=oQ a 0 (i:Int);have az:=JP a 0 (i:Int);have af:Hid (ZL b z (i+1) (a.set i ⟨(JC b (predsFrom a 0 (i:Int)) a[i].ps.length 0 a[i].ps s).1,a[i].is,a[i].te⟩) (JC b (predsFrom a 0 (i:Int)) a[i].ps.length 0 a[i].ps s).2=ZL b N 0 j n):=Xa (by
   have:=d.1;rw[ZL,show a.getD i XV=a[i] by simp[y]]at this;exact this)
  obtain⟨preds,a0⟩:∃p,p=predsFrom a 0 (i:Int):=⟨_,rfl⟩;rw[<-a0]at aj Z az af |-;obtain⟨pl,aa⟩:∃pl,pl=preds.length:=⟨_,rfl⟩;rw[<-aa]at az |-;have a4:=Xa aa;have a3:=Xa Z;clear a0 aa Z ap ay x1 x0 ad t
  go_wp2_with fail
  refine lp5 w o B f vals G c a l h k b I H pa pl bo preds i N s _ _ _ _ _ _ _ _ _ _ _ _ _ _ _ _ _ (by exact Xa (fun c C ab ac w E=>hQ c C ab ac w E)) y (Xa ⟨A.symm,Y.2.1,a4.symm⟩) ⟨ba,oN A.out⟩ (Xa (d.2.2 i y (aA _)).2) (Xa (fun bq hq=>by
   obtain⟨a7,v,h1,h2⟩:=a3 bq hq;exact⟨a7,v,oP Y.out A.out⟩)) bb (Xa (d.2.2 i y (aA _)).1) ?_ _ _ _ (by rfl) (Xa ?_)
  ·intro s' q r e w' g a1 ax
   obtain⟨a9,rfl⟩:=spr e g;clear g;have t:=Xa ax;have a5:=Xa a1;clear ax a1
   go_wp2_with fail
   obtain⟨bn,bp,bm,a6,a8,ar,-⟩:=t.out;rw[a5.out]at ar;refine⟨⟨⟨i+1,z,a.set i ⟨(JC b preds a[i].ps.length 0 a[i].ps s).1,a[i].is,a[i].te⟩,(JC b preds a[i].ps.length 0 a[i].ps s).2,_,_,_,_⟩,rfl,rfl,(by show i+1+z=N;omega),Xa ⟨af,by show(a.set i _).length=N;rw[bL];exact d.2.1,fun m F bf=>?_⟩,Xa ⟨bn,bp,bm,a6,a8,ar⟩⟩,by simp[intOf];omega⟩;have bl:m<a.length:=by simpa using F
   have br:i+1<=m:=bf;show(a.set i _)[m].ps.length<=1000/\∀p∈(a.set i _)[m].ps,p.args=[];rw[bI oM];exact d.2.2 m bl oM
  ·have e3:a.set i ⟨a[i].ps,a[i].is,a[i].te⟩=a:=fK y
   rw[e3];exact⟨_,_,_,_,_,a2,aj⟩
 | zero =>
  have bi:¬(i:Int)<N:=oM;have bc:i=N:=oM;subst bc
  go_wp2_with fail
  have e1:(a,s)=ZL b i 0 j n:=d.1;refine HX s _ _ _ _ _ rfl (by rw[<-e1]) ?_;rw[<-e1];exact J
def othN(b n:Nat):Nat:=if b=0 then 0 else n-b
def J1(b:Int)(n:Nat):Int:=if b=0 then 0 else (n:Int)-b
def YB(n:Nat)(t:Yj):Yj:=⟨t.kind,t.a,if t.kind≠3 then J1 t.to n else t.to,if t.kind=2 then J1 t.els n else t.els⟩
def YP(a:List Xe):List Xe:=(List.range a.length).map fun b=>⟨(a.getD (othN b a.length) XV).ps,(a.getD (othN b a.length) XV).is,YB a.length (a.getD (othN b a.length) XV).te⟩
def Wy(n:Nat)(a args:List Int)(z:Int):List Int:=(List.range a.length).filterMap fun m=>if a.getD m 0=J1 z n then some (args.getD m 0)else none
def JH(n:Nat)(b a args:List Int):List Int:=a.flatMap (Wy n b args)
def YD(n:Nat)(c a:List Int)(b:List Ph):List Ph:=b.map fun p=>⟨p.dst,JH n c a p.args⟩
def Ks(a:List Xe):Nat->Nat->List Xe->List Xe
 | 0,_,g=>g
 | k+1,b,g=>Ks a k (b+1) (g.set b ⟨YD a.length (predsFrom a 0 (othN b a.length:Nat)) (predsFrom g 0 (b:Int)) (g.getD b XV).ps,(g.getD b XV).is,(g.getD b XV).te⟩)
def Zh(a:List Xe):List Xe:=Ks a a.length 0 (YP a)
def renI(top:Int)(x:Yg):Yg:=⟨x.op,if dB x.op=true then wrap64 (top-x.dst)else x.dst,if aB x.op=true then wrap64 (top-x.a)else x.a,if bB x.op=true then wrap64 (top-x.b)else x.b,x.imm⟩
def km(top:Int)(t:Yj):Yj:=⟨t.kind,if t.kind≠1 then wrap64 (top-t.a)else t.a,t.to,t.els⟩
def Jp(top:Int)(x:Xe):Xe:=⟨x.ps.map fun p=>⟨wrap64 (top-p.dst),p.args.map fun z=>wrap64 (top-z)⟩,x.is.map (renI top),km top x.te⟩
def Tm(v:Nat)(a:List Xe):List Xe:=a.map (Jp ((v:Int)-1))
def d6(a:List Xe):Prop:=∀i (h:i<a.length),∀p∈a[i].ps,p.args.length=(predsFrom a 0 (i:Int)).length
noncomputable def d8(s:Sr)(c:Bool):List Xe × Nat × Sr :=
 let a:=nextP s (3+s.size)
 let b:=nextP a.2 2
 let t:=JB (a.1.toNat+1) (a.1.toNat+1) 0 b.2 []
 let d:=ZI c (a.1.toNat+1) t.1 t.2
 let g:=Zm (b.1==0) d.2.1 d.1.length 0 ⟨d.1.map Yt,[],0,d.2.2⟩
 let h:=ZL g.ends d.1.length 0 g.xs g.s
 (h.1,g.v,h.2)
noncomputable def XM(s:Sr)(a:Bool):Fn × Sr :=
 let g:=d8 s a
 let p:=nextP g.2.2 3
 let q:=nextP p.2 3
 (⟨g.2.1,if q.1=0 then Tm g.2.1 (if p.1=0 then Zh g.1 else g.1)else (if p.1=0 then Zh g.1 else g.1)⟩,q.2)
section
def Kg(xs:List Xe):Prop:=∀x∈xs,x.ps.length<=1000/\(∀p∈x.ps,p.args.length<=1000)/\x.is.length<=1000
def bg(n:Nat)(t:Yj):Prop:=(t.kind=1\/t.kind=2\/t.kind=3)/\0<=t.to/\t.to<n/\0<=t.els/\t.els<n
def TgB(xs:List Xe):Prop:=∀x∈xs,bg xs.length x.te
def q8:Prop:=∀(v:Nat)(G n c:Nat)(xs:List Xe)(lab:Nat->Nat × Nat × Nat)(a:Nat)(pv iv:Nat->Value)(av:Nat->Nat->Value)(w:World),Hid (ZU w lab a (.slice (some ⟨G,0,none⟩) n c) xs pv iv av)->Hid (n=xs.length)->a<=w.heap.size->Hid (∀b,w.heap.size<=b->lab b=(0,0,0))->Hid (d6 xs)->Hid (Kg xs)->Hid (TgB xs)->1<=n->n<=11 ->
 Calls prog 70 #[.agg #[.int .i64 (v:Int),.slice (some ⟨G,0,none⟩) n c]] w fun h w'=>∃d e f j i g,h=.returned (.agg #[.int .i64 (v:Int),.slice (some ⟨e,0,none⟩) n f])/\Below w.heap.size w w'/\ZU w' d a (.slice (some ⟨e,0,none⟩) n f) (Zh xs) j i g/\(∀b,w'.heap.size<=b->d b=(0,0,0))/\(∀b,b<w.heap.size->lab b=(0,0,0)->d b=(0,0,0))
def Cj:Prop:=∀(v:Nat)(G n c:Nat)(xs:List Xe)(lab:Nat->Nat × Nat × Nat)(a:Nat)(pv iv:Nat->Value)(av:Nat->Nat->Value)(w:World),Hid (ZU w lab a (.slice (some ⟨G,0,none⟩) n c) xs pv iv av)->Hid (n=xs.length)->a<=w.heap.size->Hid (∀b,w.heap.size<=b->lab b=(0,0,0))->n<=11->v<=1000->Hid (Kg xs) ->
 Calls prog 71 #[.agg #[.int .i64 (v:Int),.slice (some ⟨G,0,none⟩) n c]] w fun e w'=>e=.returned (.agg #[.int .i64 (v:Int),.slice (some ⟨G,0,none⟩) n c])/\Below a w w'/\ZU w' lab a (.slice (some ⟨G,0,none⟩) n c) (Tm v xs) pv iv av/\(∀b,b<w.heap.size->lab b=(0,0,0)->w'.heap[b]?=w.heap[b]?)/\(∀b,w'.heap.size<=b->lab b=(0,0,0))
structure GoT(w wr:World)(lab:Nat->Nat × Nat × Nat)(sb B:Nat)(s:Sr)(fb vals G c:Nat)(xs:List Xe)(pv iv:Nat->Value)(av:Nat->Nat->Value):Prop where
 dr:ZQ wr sb B s
 gr:w.grownBy wr (some sb)
 bw:B<=w.heap.size
 res:Bx wr w.heap.size #[.int .i64 0,.slice none 0 0] 25
 resl:lab w.heap.size=(0,0,0)
 fbx:Bx wr fb #[.int .i64 vals,.slice (some ⟨G,0,none⟩) xs.length c] 25
 fbl:lab fb=(0,0,0)
 fbb:w.heap.size<fb
 fn:ZU wr lab w.heap.size (.slice (some ⟨G,0,none⟩) xs.length c) xs pv iv av
 fr:∀b,wr.heap.size<=b->lab b=(0,0,0)
variable {w wr w' : World} {lab : Nat -> Nat × Nat × Nat} {sb B : Nat} {s s' : Sr} {fb vals G c : Nat} {xs : List Xe} {pv iv : Nat -> Value} {av : Nat -> Nat -> Value}
theorem JU.toT{e:Value}{b:Nat->Value}{a:List (List Int)}{f:Value}{d:List Int}(h:JU w wr lab sb B s fb vals G c xs pv iv av e b a f d):GoT w wr lab sb B s fb vals G c xs pv iv av:=⟨h.dr,h.gr,h.bw,h.res,h.resl,h.fbx,h.fbl,h.fbb,h.fn,h.fr⟩
theorem GoT.lt(h:GoT w wr lab sb B s fb vals G c xs pv iv av):sb<w.heap.size:=oP h.bw h.dr.bB
theorem GoT.call(h:GoT w wr lab sb B s fb vals G c xs pv iv av)(g:wr.grownBy w' (some sb))(d:ZQ w' sb B s'):GoT w w' lab sb B s' fb vals G c xs pv iv av:=by
 have k:XW wr w' lab lab w.heap.size (fun _=>True):=XW.grown g h.lt;exact⟨d,Y5 h.gr g,h.bw,h.res.sp k (aA _) trivial,h.resl,h.fbx.sp k (dU h.fbb) trivial,h.fbl,h.fbb,h.fn.sp k 0 (fun _ _ _ _ _=>trivial) (bC (fun _ _=>trivial)),k.fresh h.fr⟩
theorem GoT.low(h:GoT w wr lab sb B s fb vals G c xs pv iv av)(k:Below w.heap.size wr w'):ZQ w' sb B s/\w.grownBy w' (some sb) :=
 ⟨h.dr.keep (k.mono h.bw),⟨k.os.trans h.gr.os,k.tape.trans h.gr.tape,k.output.trans h.gr.output,aJ h.gr.size k.size,fun b a d=>(k.block b a).trans (h.gr.block b a d)⟩⟩
theorem nj(xs:List Xe):∀(k b:Nat)(g:List Xe),(Ks xs k b g).length=g.length
 | 0,_,_=>rfl
 | k+1,b,g=>by rw[Ks,nj];simp
theorem im(xs:List Xe):(Zh xs).length=xs.length:=by unfold Zh;rw[nj];simp[YP]
theorem iu(v:Nat)(xs:List Xe):(Tm v xs).length=xs.length:=by simp[Tm]
theorem GoT.turned{a:Nat->Nat × Nat × Nat}{f g:Nat}{q n:Nat->Value}{j:Nat->Nat->Value}(h:GoT w wr lab sb B s fb vals G c xs pv iv av)(d:Below wr.heap.size wr w')(t:ZU w' a w.heap.size (.slice (some ⟨f,0,none⟩) xs.length g) (Zh xs) q n j)(r:∀b,w'.heap.size<=b->a b=(0,0,0))(l:∀b,b<wr.heap.size->lab b=(0,0,0)->a b=(0,0,0)) :
 GoT w ((w'.setCell ⟨fb,0,none⟩ (.int .i64 vals)).setCell ⟨fb,1,none⟩ (.slice (some ⟨f,0,none⟩) xs.length g)) a sb B s fb vals f g (Zh xs) q n j:=by
 have m:=h.low (d.mono h.gr.size);have u:=h.fbx.keep (d.block _ h.fbx.lt);have k:=l fb h.fbx.lt h.fbl;have o:XW w' ((w'.setCell ⟨fb,0,none⟩ (.int .i64 vals)).setCell ⟨fb,1,none⟩ (.slice (some ⟨f,0,none⟩) xs.length g)) a a w.heap.size (fun b=>b≠fb):=((XW.put fb _ _).trans (XW.put fb _ _)).weak (fun _ d=>⟨d,d⟩);have p:∀b,(a b).1≠0->b≠fb:=fun b i e=>i (by rw[e,k])
 have x:=h.bw;have v:=h.fbb;refine⟨(m.1.put oM).put oM,XS (XS m.2 oM) oM,h.bw,((h.res.keep (d.block _ h.res.lt)).other oM).other oM,l _ h.res.lt h.resl,?_,k,h.fbb,?_,o.fresh r⟩
 ·rw[im]
  have:=(u.set 0 (.int .i64 vals)).set 1 (.slice (some ⟨f,0,none⟩) xs.length g);simpa using this
 ·rw[im]
  exact t.sp o 0 (fun b i _ _ _=>p b i) (bC (fun b e=>p b (by rcases e with e | e<;>rw[e]<;>simp)))
theorem GoT.renamed(h:GoT w wr lab sb B s fb vals G c xs pv iv av)(a:Below w.heap.size wr w')(l:ZU w' lab w.heap.size (.slice (some ⟨G,0,none⟩) xs.length c) (Tm vals xs) pv iv av)(f:∀b,b<wr.heap.size->lab b=(0,0,0)->w'.heap[b]?=wr.heap[b]?)(k:∀b,w'.heap.size<=b->lab b=(0,0,0)) :
 GoT w ((w'.setCell ⟨fb,0,none⟩ (.int .i64 vals)).setCell ⟨fb,1,none⟩ (.slice (some ⟨G,0,none⟩) xs.length c)) lab sb B s fb vals G c (Tm vals xs) pv iv av:=by
 have g:=h.low a;have m:=h.fbx.keep (f _ h.fbx.lt h.fbl);have i:XW w' ((w'.setCell ⟨fb,0,none⟩ (.int .i64 vals)).setCell ⟨fb,1,none⟩ (.slice (some ⟨G,0,none⟩) xs.length c)) lab lab w.heap.size (fun b=>b≠fb):=((XW.put fb _ _).trans (XW.put fb _ _)).weak (fun _ a=>⟨a,a⟩);have j:∀b,(lab b).1≠0->b≠fb:=fun b d e=>d (by rw[e,h.fbl])
 have o:=h.bw;have n:=h.fbb;refine⟨(g.1.put oM).put oM,XS (XS g.2 oM) oM,h.bw,((h.res.keep (f _ h.res.lt h.resl)).other oM).other oM,h.resl,?_,h.fbl,h.fbb,?_,i.fresh k⟩
 ·rw[iu]
  have:=(m.set 0 (.int .i64 vals)).set 1 (.slice (some ⟨G,0,none⟩) xs.length c);simpa using this
 ·rw[iu]
  exact l.sp i 0 (fun b d _ _ _=>j b d) (bC (fun b e=>j b (by rcases e with e | e<;>rw[e]<;>simp)))
end
section
variable {w w' : World} {lab : Nat -> Nat × Nat × Nat} {base : Nat} {v : Value} {xs : List Xe} {pv iv : Nat -> Value} {av : Nat -> Nat -> Value}
theorem ZU.upd{i:Nat}{L:Nat × Nat × Nat}(h:ZU w lab base v xs pv iv av)(x:Xe)(r:∀b,base<=b->b<w.heap.size->lab b≠L->w'.heap[b]?=w.heap[b]?)(c:L=(1,0,0)\/L.2.1=i)
 (p:Xv w' lab (1,0,0) base 90 6 v xs.length (XF pv iv (xs.set i x))) (y:Xv w' lab (2,i,0) base 96 2 (pv i) x.ps.length (Yh (av i) x.ps)) (hq:Xv w' lab (3,i,0) base 98 5 (iv i) x.is.length (YC x.is)) (ha:∀j (f:j<x.ps.length),Xv w' lab (4,i,j) base 2 1 (av i j) x.ps[j].args.length (Xt x.ps[j].args)) :
 ZU w' lab base v (xs.set i x) pv iv av:=by
 have keep:∀{M:Nat × Nat × Nat}{t o:Nat}{u:Value}{n:Nat}{l:List Value},Xv w lab M base t o u n l->M≠L->Xv w' lab M base t o u n l:=fun z s=>z.keep (fun b m g e=>⟨r b m g (by rw[e];exact s),e⟩)
 have k:∀q a j,1<q->a≠i->((q,a,j):Nat × Nat × Nat)≠L:=fun q a j m g e=>by
  rcases c with c | c
  ·rw[c]at e
   simp at e;omega
  ·rw[<-e]at c
   exact g c
 refine⟨by rw[bL];exact p,fun a d=>?_,fun a d=>?_,fun a d j f=>?_⟩
 ·by_cases e:a=i
  ·subst e
   simp only[Xj];exact y
  ·rw[bI (fun e2=>e e2.symm)]
   exact keep (h.ps a (by simpa using d)) (k _ _ _ vY e)
 ·by_cases e:a=i
  ·subst e
   simp only[Xj];exact hq
  ·rw[bI (fun e2=>e e2.symm)]
   exact keep (h.ins a (by simpa using d)) (k _ _ _ vY e)
 ·by_cases e:a=i
  ·subst e
   simp only[Xj]at f |-;exact ha j f
  ·simp only[bI (fun e2=>e e2.symm)]at f |-
   exact keep (h.args a (by simpa using d) j f) (k _ _ _ vY e)
theorem KQ{i:Nat}{x:Xe}(c:i<xs.length)(g:x.te=xs[i].te):XF pv iv (xs.set i x)=XF pv iv xs:=by
 unfold XF;have:xs=xs.set i xs[i]:=(fK c).symm;refine iG (fun r=>?_);have h:=Zn (f:=fun i (x:Xe)=>UT (pv i) (iv i) x.te) (sz:=6) (fun _ _=>rfl) 0 xs;have d:=Zn (f:=fun i (x:Xe)=>UT (pv i) (iv i) x.te) (sz:=6) (fun _ _=>rfl) 0 (xs.set i x);rw[bL]at d;by_cases j:r<xs.length*6
 ·have hq:r / 6<xs.length:=oM
  have f:r / 6<(xs.set i x).length:=by simpa using hq
  have b:r=r / 6*6+r % 6:=oM;have a:r % 6<6:=dS _ vY;rw[b,Xz (sz:=6) (fun _ _=>rfl) 0 _ _ f _ a,Xz (sz:=6) (fun _ _=>rfl) 0 xs _ hq _ a];by_cases e:i=r / 6
  ·subst e
   rw[Xj,g]
  ·rw[bI e]
 ·rw[dK oM,dK oM]
theorem xU{T:Type}{l:List T}{k:Nat}{u:T}(h:l[k]?=some u):l.set k u=l:=by
 refine iG (fun r=>?_);by_cases e:k=r
 ·subst e
  obtain⟨a,_⟩:=cV.1 h;rw[mM a,h]
 ·rw[dZ e]
theorem ZW{L:Nat × Nat × Nat}{t b g n c m:Nat}{a:List Value}(h:Xv w lab L base t b (.slice (some ⟨g,0,none⟩) n c) m a):m=n:=by
 rcases h.own.2 with⟨e,_⟩ | ⟨_,_,_,e,_⟩
 ·cases e
 ·cases e;rfl
theorem Jl{L:Nat × Nat × Nat}{g q:Nat}{u:Value}(a:lab g=L):∀b,base<=b->b<w.heap.size->lab b≠L->(w.setCell ⟨g,q,none⟩ u).heap[b]?=w.heap[b]?:=fun _ _ _ c=>Below.heap_setCell _ _ _ _ (fun e=>c (by rw[e];exact a))
theorem ZU.setDst{i j g D r:Nat}{d:Int}(h:ZU w lab base v xs pv iv av)(c:i<xs.length)(l:j<xs[i].ps.length)(p:pv i=.slice (some ⟨g,0,none⟩) D r) :
 ZU (w.setCell ⟨g,j*2,none⟩ (.int .i64 d)) lab base v (xs.set i (xs[i].setPhi j ⟨d,xs[i].ps[j].args⟩)) pv iv av/\lab g=(2,i,0)/\w.cell? ⟨g,j*2,none⟩=some (.int .i64 xs[i].ps[j].dst)/\(∀F,w.frozen? ⟨g,F,none⟩=false):=by
 have a:=h.ps i c;rw[p]at a;have B:=ZW a;subst B;have f:=a.lab g rfl;have keep:∀{M:Nat × Nat × Nat}{t q:Nat}{u:Value}{m:Nat}{k:List Value},Xv w lab M base t q u m k->M≠(2,i,0)->Xv (w.setCell ⟨g,j*2,none⟩ (.int .i64 d)) lab M base t q u m k:=fun C o=>C.keep (fun b y z e=>⟨Jl f b y z (by rw[e];exact o),e⟩)
 refine⟨h.upd _ (Jl f) (aZ rfl) ?_ ?_ (keep (h.ins i c) sP) (fun m n=>?_),f,a.cell ?_,a.thaw⟩
 ·rw[KQ (x:=xs[i].setPhi j ⟨d,xs[i].ps[j].args⟩) c rfl]
  exact keep h.blks sP
 ·rw[p]
  show Xv _ lab (2,i,0) base 96 2 _ (xs[i].ps.set j _).length (Yh (av i) (xs[i].ps.set j _));rw[bL];have x:Yh (av i) (xs[i].ps.set j ⟨d,xs[i].ps[j].args⟩)=(Yh (av i) xs[i].ps).set (j*2+0) (.int .i64 d):=by
   unfold Yh;refine Yr (sz:=2) (fun _ _=>rfl) 0 xs[i].ps j l _ 0 _ vY ?_ (fun m n o=>rfl);rfl
  rw[x];exact a.set _ _
 ·have A:m<xs[i].ps.length:=by simpa [Xe.setPhi]using n
  have s:(xs[i].setPhi j ⟨d,xs[i].ps[j].args⟩).ps[m].args=xs[i].ps[m].args:=by
   by_cases e:j=m
   ·subst e
    simp only[Xe.setPhi,Xj]
   ·simp only[Xe.setPhi,bI e]
  rw[s];exact keep (h.args i c m A) sP
 ·unfold Yh
  have:=Xz (f:=fun j (E:Ph)=>[Value.int .i64 E.dst,av i j]) (sz:=2) (fun _ _=>rfl) 0 _ j l 0 vY;rw[fW]at this;rw[this,aV];rfl
theorem ZU.setArg{i j k g G x:Nat}{d:Int}(h:ZU w lab base v xs pv iv av)(c:i<xs.length)(l:j<xs[i].ps.length)(C:k<xs[i].ps[j].args.length)(r:av i j=.slice (some ⟨g,0,none⟩) G x) :
 ZU (w.setCell ⟨g,k,none⟩ (.int .i64 d)) lab base v (xs.set i (xs[i].setPhi j ⟨xs[i].ps[j].dst,xs[i].ps[j].args.set k d⟩)) pv iv av/\lab g=(4,i,j)/\w.cell? ⟨g,k,none⟩=some (.int .i64 xs[i].ps[j].args[k])/\(∀H,w.frozen? ⟨g,H,none⟩=false):=by
 have a:=h.args i c j l;rw[r]at a;have E:=ZW a;subst E;have f:=a.lab g rfl;have keep:∀{M:Nat × Nat × Nat}{t s:Nat}{u:Value}{m:Nat}{n:List Value},Xv w lab M base t s u m n->M≠(4,i,j)->Xv (w.setCell ⟨g,k,none⟩ (.int .i64 d)) lab M base t s u m n:=fun F q=>F.keep (fun b A B e=>⟨Jl f b A B (by rw[e];exact q),e⟩)
 refine⟨h.upd _ (Jl f) (aZ rfl) ?_ ?_ (keep (h.ins i c) sP) (fun m o=>?_),f,a.cell ?_,a.thaw⟩
 ·rw[KQ (x:=xs[i].setPhi j ⟨xs[i].ps[j].dst,xs[i].ps[j].args.set k d⟩) c rfl]
  exact keep h.blks sP
 ·show Xv _ lab (2,i,0) base 96 2 _ (xs[i].ps.set j _).length (Yh (av i) (xs[i].ps.set j _))
  rw[bL];have y:Yh (av i) (xs[i].ps.set j ⟨xs[i].ps[j].dst,xs[i].ps[j].args.set k d⟩)=Yh (av i) xs[i].ps:=by
   have z:=Xz (f:=fun j (p:Ph)=>[Value.int .i64 p.dst,av i j]) (sz:=2) (fun _ _=>rfl) 0 _ j l 0 vY;unfold Yh;have e2:=Yr (f:=fun j (p:Ph)=>[Value.int .i64 p.dst,av i j]) (f':=fun j (p:Ph)=>[Value.int .i64 p.dst,av i j]) (sz:=2) (fun _ _=>rfl) 0 xs[i].ps j l ⟨xs[i].ps[j].dst,xs[i].ps[j].args.set k d⟩ 0 (.int .i64 xs[i].ps[j].dst) vY rfl (fun m o q=>rfl);rw[e2];exact xU (z.trans rfl)
  rw[y];exact keep (h.ps i c) sP
 ·have D:m<xs[i].ps.length:=by simpa [Xe.setPhi]using o
  by_cases e:j=m
  ·subst e
   simp only[Xe.setPhi,Xj];rw[r,bL];have e3:Xt (xs[i].ps[j].args.set k d)=(Xt xs[i].ps[j].args).set k (.int .i64 d):=by unfold Xt;rw[mN]
   rw[e3];exact a.set _ _
  ·simp only[Xe.setPhi,bI e]
   exact keep (h.args i c m D) (by simp;exact fun e2=>e e2.symm)
 ·unfold Xt
  simp[C]
def Wn(w:World)(g k:Nat)(x:Yg):World:=((((w.setCell ⟨g,k,none⟩ (.int .i64 x.op)).setCell ⟨g,k+1,none⟩ (.int .i64 x.dst)).setCell ⟨g,k+2,none⟩ (.int .i64 x.a)).setCell ⟨g,k+3,none⟩ (.int .i64 x.b)).setCell ⟨g,k+4,none⟩ (.int .i64 x.imm)
theorem ZU.setIns{i j g K B:Nat}{x:Yg}(h:ZU w lab base v xs pv iv av)(k:i<xs.length)(n:j<xs[i].is.length)(t:iv i=.slice (some ⟨g,0,none⟩) K B) :
 ZU (Wn w g (j*5) x) lab base v (xs.set i ⟨xs[i].ps,xs[i].is.set j x,xs[i].te⟩) pv iv av/\lab g=(3,i,0)/\Jk w g (j*5) xs[i].is[j]/\(∀q,w.frozen? ⟨g,q,none⟩=false):=by
 have a:=h.ins i k;rw[t]at a;have G:=ZW a;subst G;have r:=a.lab g rfl;have s:∀b,base<=b->b<w.heap.size->lab b≠(3,i,0)->(Wn w g (j*5) x).heap[b]?=w.heap[b]?:=fun b _ _ o=>by
  have e:b≠g:=fun f=>o (by rw[f];exact r)
  unfold Wn;rw[Below.heap_setCell _ _ _ _ e,Below.heap_setCell _ _ _ _ e,Below.heap_setCell _ _ _ _ e,Below.heap_setCell _ _ _ _ e,Below.heap_setCell _ _ _ _ e]
 have keep:∀{M:Nat × Nat × Nat}{A z:Nat}{u:Value}{m:Nat}{p:List Value},Xv w lab M base A z u m p->M≠(3,i,0)->Xv (Wn w g (j*5) x) lab M base A z u m p:=fun H o=>H.keep (fun b D E f=>⟨s b D E (by rw[f];exact o),f⟩)
 have c:∀q u,q<5->(xs[i].is[j].cells)[q]?=some u->w.cell? ⟨g,j*5+q,none⟩=some u:=fun q u hq J=>a.cell (by
  unfold YC;rw[Xz (sz:=5) (fun _ _=>rfl) 0 xs[i].is j n q hq];exact J)
 refine⟨h.upd (L:=(3,i,0)) ⟨xs[i].ps,xs[i].is.set j x,xs[i].te⟩ s (aZ rfl) ?_ (keep (h.ps i k) sP) ?_ (fun m F=>keep (h.args i k m F) sP),r,⟨c 0 _ oM rfl,c 1 _ oM rfl,c 2 _ oM rfl,c 3 _ oM rfl,c 4 _ oM rfl⟩,a.thaw⟩
 ·rw[KQ (x:=⟨xs[i].ps,xs[i].is.set j x,xs[i].te⟩) k rfl]
  exact keep h.blks sP
 ·rw[t]
  show Xv _ lab (3,i,0) base 98 5 _ (xs[i].is.set j x).length (YC (xs[i].is.set j x));rw[bL];have I:=((((a.set (j*5) (.int .i64 x.op)).set (j*5+1) (.int .i64 x.dst)).set (j*5+2) (.int .i64 x.a)).set (j*5+3) (.int .i64 x.b)).set (j*5+4) (.int .i64 x.imm);have d:∀(L:Nat)(y:Yg),y.cells.length=5:=fun _ _=>rfl
  have C:YC (xs[i].is.set j x)=(((((YC xs[i].is).set (j*5) (.int .i64 x.op)).set (j*5+1) (.int .i64 x.dst)).set (j*5+2) (.int .i64 x.a)).set (j*5+3) (.int .i64 x.b)).set (j*5+4) (.int .i64 x.imm):=by
   have s1:=Yr (f:=fun _ (y:Yg)=>y.cells) (f':=fun _ (y:Yg)=>y.cells) d 0 xs[i].is j n ⟨x.op,xs[i].is[j].dst,xs[i].is[j].a,xs[i].is[j].b,xs[i].is[j].imm⟩ 0 (.int .i64 x.op) vY rfl (fun _ _ _=>rfl);have l:=fun (y:Yg)=>(show j<(xs[i].is.set j y).length by simpa using n)
   have s2:=Yr (f:=fun _ (y:Yg)=>y.cells) (f':=fun _ (y:Yg)=>y.cells) d 0 (xs[i].is.set j ⟨x.op,xs[i].is[j].dst,xs[i].is[j].a,xs[i].is[j].b,xs[i].is[j].imm⟩) j (l _) ⟨x.op,x.dst,xs[i].is[j].a,xs[i].is[j].b,xs[i].is[j].imm⟩ 1 (.int .i64 x.dst) vY (by rw[Xj];rfl) (fun _ _ _=>rfl);rw[gE]at s2;have s3:=Yr (f:=fun _ (y:Yg)=>y.cells) (f':=fun _ (y:Yg)=>y.cells) d 0 (xs[i].is.set j ⟨x.op,x.dst,xs[i].is[j].a,xs[i].is[j].b,xs[i].is[j].imm⟩) j (l _) ⟨x.op,x.dst,x.a,xs[i].is[j].b,xs[i].is[j].imm⟩ 2 (.int .i64 x.a) vY (by rw[Xj];rfl) (fun _ _ _=>rfl);rw[gE]at s3;have s4:=Yr (f:=fun _ (y:Yg)=>y.cells) (f':=fun _ (y:Yg)=>y.cells) d 0 (xs[i].is.set j ⟨x.op,x.dst,x.a,xs[i].is[j].b,xs[i].is[j].imm⟩) j (l _) ⟨x.op,x.dst,x.a,x.b,xs[i].is[j].imm⟩ 3 (.int .i64 x.b) vY (by rw[Xj];rfl) (fun _ _ _=>rfl);rw[gE]at s4;have s5:=Yr (f:=fun _ (y:Yg)=>y.cells) (f':=fun _ (y:Yg)=>y.cells) d 0 (xs[i].is.set j ⟨x.op,x.dst,x.a,x.b,xs[i].is[j].imm⟩) j (l _) x 4 (.int .i64 x.imm) vY (by rw[Xj];rfl) (fun _ _ _=>rfl);rw[gE]at s5;unfold YC;rw[s5,s4,s3,s2,s1,fW]
  rw[C];exact I
theorem ZU.setTerA{i g n f:Nat}{d:Int}(h:ZU w lab base (.slice (some ⟨g,0,none⟩) n f) xs pv iv av)(a:i<xs.length) :
 ZU (w.setCell ⟨g,i*6+3,none⟩ (.int .i64 d)) lab base (.slice (some ⟨g,0,none⟩) n f) (xs.set i ⟨xs[i].ps,xs[i].is,⟨xs[i].te.kind,d,xs[i].te.to,xs[i].te.els⟩⟩) pv iv av/\lab g=(1,0,0)/\(∀z,w.frozen? ⟨g,z,none⟩=false):=by
 have c:=h.blks;have s:=ZW c;subst s;have e:=c.lab g rfl;have keep:∀{M:Nat × Nat × Nat}{t l:Nat}{u:Value}{m:Nat}{j:List Value},Xv w lab M base t l u m j->M≠(1,0,0)->Xv (w.setCell ⟨g,i*6+3,none⟩ (.int .i64 d)) lab M base t l u m j:=fun y x=>y.keep (fun b p q k=>⟨Jl e b p q (by rw[k];exact x),k⟩)
 refine⟨h.upd (L:=(1,0,0)) ⟨xs[i].ps,xs[i].is,⟨xs[i].te.kind,d,xs[i].te.to,xs[i].te.els⟩⟩ (Jl e) (bC rfl) ?_ (keep (h.ps i a) sP) (keep (h.ins i a) sP) (fun m r=>keep (h.args i a m r) sP),e,c.thaw⟩;have o:XF pv iv (xs.set i ⟨xs[i].ps,xs[i].is,⟨xs[i].te.kind,d,xs[i].te.to,xs[i].te.els⟩⟩)=(XF pv iv xs).set (i*6+3) (.int .i64 d):=by
  unfold XF;refine Yr (sz:=6) (fun _ _=>rfl) 0 xs i a _ 3 _ vY rfl (fun _ _ _=>rfl)
 rw[o];exact c.set _ _
theorem ZU.cells{i g n c:Nat}(h:ZU w lab base (.slice (some ⟨g,0,none⟩) n c) xs pv iv av)(d:i<xs.length):w.cell? ⟨g,i*6,none⟩=some (pv i)/\w.cell? ⟨g,i*6+1,none⟩=some (iv i)/\Va w g (i*6+2) xs[i].te:=by
 have b:=h.blks;have e:=ZW b;subst e;have a:∀q u,q<6->(UT (pv i) (iv i) xs[i].te)[q]?=some u->w.cell? ⟨g,i*6+q,none⟩=some u:=fun q u hq f=>b.cell (by
  unfold XF;rw[Xz (fun _ _=>KU _ _ _) 0 xs i d q hq,aV];exact f)
 exact⟨a 0 _ oM rfl,a 1 _ oM rfl,a 2 _ oM rfl,a 3 _ oM rfl,a 4 _ oM rfl,a 5 _ oM rfl⟩
theorem ZU.phiCells{i j g n c:Nat}(h:ZU w lab base v xs pv iv av)(d:i<xs.length)(e:j<xs[i].ps.length)(k:pv i=.slice (some ⟨g,0,none⟩) n c):w.cell? ⟨g,j*2,none⟩=some (.int .i64 xs[i].ps[j].dst)/\w.cell? ⟨g,j*2+1,none⟩=some (av i j):=by
 have a:=h.ps i d;rw[k]at a;have f:=ZW a;subst f;have b:∀q u,q<2->([.int .i64 xs[i].ps[j].dst,av i j]:List Value)[q]?=some u->w.cell? ⟨g,j*2+q,none⟩=some u:=fun q u hq l=>a.cell (by
  unfold Yh;rw[Xz (sz:=2) (fun _ _=>rfl) 0 _ j e q hq,aV];exact l)
 exact⟨b 0 _ oM rfl,b 1 _ oM rfl⟩
end
section
theorem ZY(b:Int)(n:Nat)(w:World)(f:0<=b)(g:b<=1000000)(i:n<=1000000) :
 Calls prog 105 #[.int .i64 b,.int .i64 (n:Int)] w fun e w'=>e=.returned (.int .i64 (J1 b n))/\w'=w:=by
 have a:Hid (J1 b n=if b=0 then 0 else (n:Int)-b):=Xa rfl;by_cases h:b=0
 ·rw[aU h]at a
  have d:(b==0)=true:=by simpa using h
  clear h
  go_in
  go_wp2
  go_ret
  rw[a.out];exact⟨rfl,rfl⟩
 ·rw[aM h]at a
  have d:(b==0)=false:=by simpa using h
  clear h
  go_in
  go_wp2
  go_ret
  rw[a.out];exact⟨rfl,rfl⟩
def setA(x:Yg)(v:Int):Yg:=⟨x.op,x.dst,v,x.b,x.imm⟩
def KM(xs:List Xe)(b:Nat)(v:Int)(s:Sr):List Xe × Sr :=
 if (xs.getD b XV).te.kind≠1 then (xs.set b ⟨(xs.getD b XV).ps,(xs.getD b XV).is,⟨(xs.getD b XV).te.kind,v,(xs.getD b XV).te.to,(xs.getD b XV).te.els⟩⟩,s)else (xs,s)
def U1(xs:List Xe)(b:Nat)(v:Int)(s:Sr):List Xe × Sr :=
 if 0<(xs.getD b XV).is.length then
  if aB ((xs.getD b XV).is.getD (nextP s (xs.getD b XV).is.length).1.toNat ⟨0,0,0,0,0⟩).op=true then
   (xs.set b ⟨(xs.getD b XV).ps,(xs.getD b XV).is.set (nextP s (xs.getD b XV).is.length).1.toNat (setA ((xs.getD b XV).is.getD (nextP s (xs.getD b XV).is.length).1.toNat ⟨0,0,0,0,0⟩) v),(xs.getD b XV).te⟩,(nextP s (xs.getD b XV).is.length).2)
  else KM xs b v (nextP s (xs.getD b XV).is.length).2
 else KM xs b v s
def fw(xs:List Xe)(b:Nat)(v:Int)(s:Sr):List Xe × Sr :=
 if 0<(xs.getD b XV).ps.length then
  if (nextP s 3).1=0 then
   (xs.set b ((xs.getD b XV).setPhi 0 ⟨((xs.getD b XV).ps.getD 0 Wo).dst,((xs.getD b XV).ps.getD 0 Wo).args.set (nextP (nextP s 3).2 ((xs.getD b XV).ps.getD 0 Wo).args.length).1.toNat v⟩),(nextP (nextP s 3).2 ((xs.getD b XV).ps.getD 0 Wo).args.length).2)
  else U1 xs b v (nextP s 3).2
 else U1 xs b v s
def ZM(V:Nat)(xs:List Xe)(s:Sr):List Xe × Sr:=fw xs (nextP s xs.length).1.toNat (nextP (nextP s xs.length).2 V).1 (nextP (nextP s xs.length).2 V).2
theorem ZU.setInsA{w:World}{lab:Nat->Nat × Nat × Nat}{base:Nat}{v:Value}{xs:List Xe}{pv iv:Nat->Value}{av:Nat->Nat->Value}{i j g n c:Nat}{d:Int}(h:ZU w lab base v xs pv iv av)(f:i<xs.length)(p:j<xs[i].is.length)(r:iv i=.slice (some ⟨g,0,none⟩) n c) :
 ZU (w.setCell ⟨g,j*5+2,none⟩ (.int .i64 d)) lab base v (xs.set i ⟨xs[i].ps,xs[i].is.set j (setA xs[i].is[j] d),xs[i].te⟩) pv iv av/\lab g=(3,i,0)/\Jk w g (j*5) xs[i].is[j]/\(∀q,w.frozen? ⟨g,q,none⟩=false):=by
 have a:=h.ins i f;rw[r]at a;have D:=ZW a;subst D;have k:=a.lab g rfl;have keep:∀{M:Nat × Nat × Nat}{x t:Nat}{u:Value}{m:Nat}{l:List Value},Xv w lab M base x t u m l->M≠(3,i,0)->Xv (w.setCell ⟨g,j*5+2,none⟩ (.int .i64 d)) lab M base x t u m l:=fun F E=>F.keep (fun b z A o=>⟨Jl k b z A (by rw[o];exact E),o⟩)
 have e:∀q u,q<5->(xs[i].is[j].cells)[q]?=some u->w.cell? ⟨g,j*5+q,none⟩=some u:=fun q u hq H=>a.cell (by
  unfold YC;rw[Xz (sz:=5) (fun _ _=>rfl) 0 xs[i].is j p q hq];exact H)
 refine⟨h.upd (L:=(3,i,0)) ⟨xs[i].ps,xs[i].is.set j (setA xs[i].is[j] d),xs[i].te⟩ (Jl k) (aZ rfl) ?_ (keep (h.ps i f) sP) ?_ (fun m C=>keep (h.args i f m C) sP),k,⟨e 0 _ oM rfl,e 1 _ oM rfl,e 2 _ oM rfl,e 3 _ oM rfl,e 4 _ oM rfl⟩,a.thaw⟩
 ·rw[KQ (x:=⟨xs[i].ps,xs[i].is.set j (setA xs[i].is[j] d),xs[i].te⟩) f rfl]
  exact keep h.blks sP
 ·rw[r]
  show Xv _ lab (3,i,0) base 98 5 _ (xs[i].is.set j _).length (YC (xs[i].is.set j _));rw[bL];have y:YC (xs[i].is.set j (setA xs[i].is[j] d))=(YC xs[i].is).set (j*5+2) (.int .i64 d):=by
   unfold YC;exact Yr (sz:=5) (fun _ _=>rfl) 0 xs[i].is j p _ 2 _ vY rfl (fun _ _ _=>rfl)
  rw[y];exact a.set _ _
structure LsS(w wr:World)(lab:Nat->Nat × Nat × Nat)(base sb B:Nat)(s:Sr)(v G n c:Nat)(xs:List Xe)(pv iv:Nat->Value)(av:Nat->Nat->Value):Prop where
 fn:ZU wr lab base (.slice (some ⟨G,0,none⟩) n c) xs pv iv av
 dr:ZQ wr sb B s
 bb:B<=base
 os:wr.os=w.os
 tape:wr.tape=w.tape
 output:wr.output=w.output
 size:w.heap.size<=wr.heap.size
 low:∀b,b<base->b≠sb->wr.heap[b]?=w.heap[b]?
 fr:∀b,w.heap.size<=b->lab b=(0,0,0)
 bs:base<=w.heap.size
 box:Bx wr w.heap.size #[.int .i64 (v:Int),.slice (some ⟨G,0,none⟩) n c] 25
 res:Bx wr (w.heap.size+1) #[.int .i64 0,.slice none 0 0] 25
variable {w wr w' : World} {lab : Nat -> Nat × Nat × Nat} {base sb B : Nat} {s s' : Sr} {v G n c : Nat} {xs xs' : List Xe} {pv iv : Nat -> Value} {av : Nat -> Nat -> Value}
theorem LsS.lt(h:LsS w wr lab base sb B s v G n c xs pv iv av):sb<base:=oP h.bb h.dr.bB
theorem LsS.call(h:LsS w wr lab base sb B s v G n c xs pv iv av)(g:wr.grownBy w' (some sb))(d:ZQ w' sb B s'):LsS w w' lab base sb B s' v G n c xs pv iv av:=by
 have k:XW wr w' lab lab base (fun _=>True):=XW.grown g h.lt;have j:=h.lt;have i:=h.bs;have l:=h.size;exact⟨h.fn.sp k 0 (fun _ _ _ _ _=>trivial) (bC (fun _ _=>trivial)),d,h.bb,g.os.trans h.os,g.tape.trans h.tape,g.output.trans h.output,aJ h.size g.size,fun b f a=>(g.block b oM (fun e=>a (by injection e))).trans (h.low b f a),h.fr,h.bs,h.box.grown g (by intro e;injection e;omega),h.res.grown g (by intro e;injection e;omega)⟩
theorem LsS.alloc(h:LsS w wr lab base sb B s v G n c xs pv iv av)(o:Obj):LsS w (wr.alloc o) lab base sb B s v G n c xs pv iv av:=h.call (bW wr o (some sb)) (h.dr.box o)
theorem LsS.drew(h:LsS w wr lab base sb B s v G n c xs pv iv av):LsS w wr.drew lab base sb B s v G n c xs pv iv av:=h.call ⟨rfl,rfl,rfl,aA _,fun _ _ _=>rfl⟩ h.dr.drew
theorem LsS.put{g q:Nat}{u:Value}(h:LsS w wr lab base sb B s v G n c xs pv iv av)(i:ZU (wr.setCell ⟨g,q,none⟩ u) lab base (.slice (some ⟨G,0,none⟩) n c) xs' pv iv av)(a:lab g≠(0,0,0))(l:base<=g):LsS w (wr.setCell ⟨g,q,none⟩ u) lab base sb B s v G n c xs' pv iv av:=by
 have m:=h.bb;have j:w.heap.size≠g:=fun e=>a (h.fr g oM)
 have k:w.heap.size+1≠g:=fun e=>a (h.fr g oM)
 exact⟨i,h.dr.put oM,h.bb,h.os,h.tape,h.output,by simpa [World.setCell]using h.size,fun b d f=>(Below.heap_setCell _ _ _ _ (by show b≠g;omega)).trans (h.low b d f),h.fr,h.bs,h.box.other j,h.res.other k⟩
end
end Go.Proofs.YtghnlncgiihhgaaGreatDoor
