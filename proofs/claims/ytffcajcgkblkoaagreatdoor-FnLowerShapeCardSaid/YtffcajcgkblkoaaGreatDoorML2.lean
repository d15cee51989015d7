import Derived.Test.YtffcajcgkblkoaaGreatDoorLO1
import Derived.Lib.TrailingZeros
import Derived.Laws.Bits64b
namespace Go.Proofs.YtffcajcgkblkoaaGreatDoor
set_option maxHeartbeats 4000000
set_option maxRecDepth 1000000
open Go.RowKit Go.Proofs.Tryz Go.Shelf
variable{r:Bool}{s:List Nat}{x:List Xe}{n m k B g i j c:Nat}{f F:Nat->Nat}{M N:Nat->Nat->Nat}{p:Option Addr}{a:Value}{w v:World}
section
def Jv(x:Xe):List (List Int):=x.is.map Ft
def Z2(x:Xe):List Int:=x.is.map Fa
theorem Yv.mono{w:World}{P Q:Nat->Prop}{c:Option Addr}{d:List Int}(h:Yv w P c d)(k:∀b,b<w.heap.size->P b->Q b):Yv w Q c d:=λi g=>by
 let⟨b,o,e,a,f⟩:=h i g;exact⟨b,o,e,⟨k b a.2 a.1,a.2⟩,f⟩
theorem Yv.keep{w w':World}{P:Nat->Prop}{c:Option Addr}{d:List Int}(h:Yv w P c d)(k:∀b,b<w.heap.size->P b->w'.heap[b]?=w.heap[b]?)(i:w.heap.size<=w'.heap.size):Yv w' P c d:=λj g=>by
 let⟨b,o,e,a,f⟩:=h j g;exact⟨b,o,e,⟨a.1,aX a.2 i⟩,(Xc<|k b a.2 a.1).trans f⟩
theorem TA.mono{w:World}{P Q:Nat->Prop}{c:Option Addr}{d:List (List Int)}(h:TA w P c d)(k:∀b,b<w.heap.size->P b->Q b):TA w Q c d:=λn m=>by
 let⟨b,o,g,a,e,f,j,i⟩:=h n m;exact⟨b,o,g,⟨k b a.2 a.1,a.2⟩,e,f,j,i.mono k⟩
theorem TA.keep{w w':World}{P:Nat->Prop}{c:Option Addr}{e:List (List Int)}(i:TA w P c e)(k:∀b,b<w.heap.size->P b->w'.heap[b]?=w.heap[b]?)(d:w.heap.size<=w'.heap.size):TA w' P c e:=λo n=>by
 let⟨b,p,h,a,f,g,m,j⟩:=i o n;exact⟨b,p,h,⟨a.1,aX a.2 d⟩,f,g,(Xc<|k b a.2 a.1).trans m,j.keep k d⟩
theorem Yv.of_at{w:World}{L B:Nat}{P:Nat->Prop}{a:Option Addr}{d:List Int}(h:Xf w L B a d)(j:B<=w.heap.size)(k:∀b,L<=b->b<B->P b):Yv w P a d:=λi g=>by
 let⟨b,o,e,c,f⟩:=h i g;exact⟨b,o,e,⟨k b c.1 c.2,oM⟩,f⟩
theorem Yv.at_{w:World}{P:Nat->Prop}{a:Option Addr}{c:List Int}(h:Yv w P a c):Xf w 0 w.heap.size a c:=λi g=>by
 let⟨b,o,e,d,f⟩:=h i g;exact⟨b,o,e,⟨aN _,d.2⟩,f⟩
structure VO(w:World)(P:Nat->Prop)(us:Nat->Value)(x:Xe)(E:List Int):Prop where
 e0:∃a c,us 0=.slice a x.te.tg.length c/\Yv w P a x.te.tg
 e1:∃a c,us 1=.slice a (x.ps.map Ph.dst).length c/\Yv w P a (x.ps.map Ph.dst)
 e2:∃a c,us 2=.slice a E.length c/\Yv w P a E
 e3:∃a c,us 3=.slice a (Jv x).length c/\TA w P a (Jv x)
 e4:∃a c,us 4=.slice a (Z2 x).length c/\Yv w P a (Z2 x)
 e5:∃a c,us 5=.slice a (G2 x.te).length c/\Yv w P a (G2 x.te)
theorem VO.keep{w w':World}{P:Nat->Prop}{c:Nat->Value}{x:Xe}{E:List Int}(m:VO w P c x E)(k:∀b,b<w.heap.size->P b->w'.heap[b]?=w.heap[b]?)(a:w.heap.size<=w'.heap.size):VO w' P c x E:=by
 let⟨⟨d,c0,j,n⟩,⟨e,c1,e1,o⟩,⟨f,c2,e2,p⟩,⟨g,c3,e3,q⟩,⟨h,c4,e4,r⟩,⟨i,c5,e5,s⟩⟩:=m;exact⟨⟨d,c0,j,n.keep k a⟩,⟨e,c1,e1,o.keep k a⟩,⟨f,c2,e2,p.keep k a⟩,⟨g,c3,e3,q.keep k a⟩,⟨h,c4,e4,r.keep k a⟩,⟨i,c5,e5,s.keep k a⟩⟩
theorem VO.mono{w:World}{P Q:Nat->Prop}{a:Nat->Value}{x:Xe}{E:List Int}(j:VO w P a x E)(k:∀b,b<w.heap.size->P b->Q b):VO w Q a x E:=by
 let⟨⟨c,c0,i,m⟩,⟨d,c1,e1,n⟩,⟨e,c2,e2,o⟩,⟨f,c3,e3,p⟩,⟨g,c4,e4,q⟩,⟨h,c5,e5,r⟩⟩:=j;exact⟨⟨c,c0,i,m.mono k⟩,⟨d,c1,e1,n.mono k⟩,⟨e,c2,e2,o.mono k⟩,⟨f,c3,e3,p.mono k⟩,⟨g,c4,e4,q.mono k⟩,⟨h,c5,e5,r.mono k⟩⟩
structure Lb(W1:World)(bx:Nat)(f0:Nat->Value)(wr:World)(u:Value)(l:List Int):Prop where
 os:wr.os=W1.os
 tape:wr.tape=W1.tape
 output:wr.output=W1.output
 size:W1.heap.size<=wr.heap.size
 fr:∀q,q<W1.heap.size->q≠bx->wr.heap[q]?=W1.heap[q]?
 box:wr.rowIs bx 117 6 λi=>if i=2 then u else f0 i
 own:wr.ownsRow W1.heap.size 2 1 u l.length (l.map<|Value.int .i64)
section
variable {W1 wr w5 w6: World} {bx: Nat} {f0: Nat -> Value} {u u': Value} {l qs: List Int}
theorem Lb.start(b:W1.rowIs bx 117 6 f0)(a:f0 2=.slice none 0 0):Lb W1 bx f0 W1 (.slice none 0 0) [] :=
 ⟨rfl,rfl,rfl,aA _,λ_ _ _=>rfl,b.congr (λi _=>by by_cases e:i=2<;>simp[e,a]),dA _ _ _ _⟩
theorem Lb.push(h:Lb W1 bx f0 wr u l)(g:bx<W1.heap.size)(b:Below wr.heap.size wr w5)(a:w5.grownBy w6 u.ownBlock)(i:w6.ownsRow W1.heap.size 2 1 u' (l++qs).length ((l++qs).map (Value.int .i64))):Lb W1 bx f0 (w6.setCell ⟨bx,2,none⟩ u') u' (l++qs):=by
 have k:=h.size;have m:=b.size;have n:=a.size;have f:∀q,q<W1.heap.size->w6.heap[q]?=wr.heap[q]?:=λq hq=>(a.block q oM λe=>by have:=(h.own.lt q e.symm).1;omega).trans (b.block q oM);refine⟨a.os.trans<|b.os.trans h.os,a.tape.trans<|b.tape.trans h.tape,a.output.trans<|b.output.trans h.output,by rw[Xd];omega,λq c d=>(Below.heap_setCell _ _ _ _ d).trans ((f q c).trans (h.fr q c d)),((h.box.of_block<|f bx g).set 2 u').congr (λj _=>by by_cases e:j=2<;>simp[e]),ownsRow_setCell_below i g _⟩
theorem Lb.cell(h:Lb W1 bx f0 wr u l){b o:Nat}{v:Value}(c:b≠bx)(a:W1.cell? (Hk b o)=some v):wr.cell? (Hk b o)=some v:=(Xc<|h.fr b (aI W1 _ a) c).trans a
end
structure Ix(W2:World)(bx:Nat)(f0:Nat->Value)(wr:World)(ur ud:Value)(rs:List Value)(zs:List (List Int))(ds:List Int):Prop where
 os:wr.os=W2.os
 tape:wr.tape=W2.tape
 output:wr.output=W2.output
 size:W2.heap.size<=wr.heap.size
 fr:∀q,q<W2.heap.size->q≠bx->wr.heap[q]?=W2.heap[q]?
 box:wr.rowIs bx 117 6 λi=>if i=3 then ur else if i=4 then ud else f0 i
 ownR:wr.ownsRow W2.heap.size 69 1 ur rs.length rs
 len:rs.length=zs.length
 rows:∀i (h:i<zs.length),∃a' c',rs[i]?=some (.slice a' zs[i].length c')/\Yv wr (λb=>W2.heap.size<=b/\some b≠ur.ownBlock/\some b≠ud.ownBlock) a' zs[i]
 ownD:wr.ownsRow W2.heap.size 2 1 ud ds.length (ds.map<|Value.int .i64)
 ne:∀g,ur.ownBlock=some g->ud.ownBlock≠some g
section
variable {W2 wr w5 w6: World} {bx: Nat} {f0: Nat -> Value} {ur ud ur' ud': Value} {rs: List Value} {zs: List (List Int)} {ds: List Int}
theorem Ix.start(c:W2.rowIs bx 117 6 f0)(a:f0 3=.slice none 0 0)(b:f0 4=.slice none 0 0):Ix W2 bx f0 W2 (.slice none 0 0) (.slice none 0 0) [] [] [] :=
 ⟨rfl,rfl,rfl,aA _,λ_ _ _=>rfl,c.congr (λi _=>by by_cases e:i=3<;>by_cases e2:i=4<;>simp[e,e2,a,b]),dA _ _ _ _,rfl,λi h=>absurd h sP,dA _ _ _ _,λg e=>by cases e⟩
theorem Ix.below(h:Ix W2 bx f0 wr ur ud rs zs ds)(k:Below wr.heap.size wr w5):Ix W2 bx f0 w5 ur ud rs zs ds:=by
 have n:=h.size;refine⟨k.os.trans h.os,k.tape.trans h.tape,k.output.trans h.output,aJ n k.size,λq d f=>(k.block q oM).trans (h.fr q d f),h.box.of_block<|k.block _ h.box.lt,Zl h.ownR λg e=>k.block g (h.ownR.lt g e).2,h.len,λo j=>?_,Zl h.ownD λg e=>k.block g (h.ownD.lt g e).2,h.ne⟩;let⟨a,c,e,m⟩:=h.rows o j;exact⟨a,c,e,m.keep (λb i _=>k.block b i) k.size⟩
theorem Ix.pushR{f:Option Addr}{c5:Nat}{ys:List Int}(h:Ix W2 bx f0 wr ur ud rs zs ds)(s:bx<W2.heap.size){B0:Nat}(D:W2.heap.size<=B0)(n:∀g,ur.ownBlock=some g->g<B0)(y:∀g,ud.ownBlock=some g->g<B0)(A:Xf wr B0 wr.heap.size f ys)(d:wr.grownBy w6 ur.ownBlock)(B:w6.ownsRow W2.heap.size 69 1 ur' (rs.length+1) (rs++[.slice f ys.length c5]))(o:ur'.ownBlock=ur.ownBlock\/ur'.ownBlock=some wr.heap.size) :
 Ix W2 bx f0 (w6.setCell ⟨bx,3,none⟩ ur') ur' ud (rs++[.slice f ys.length c5]) (zs++[ys]) ds:=by
 have E:=h.size;have F:=d.size;have p:∀q,q<W2.heap.size->some q≠ur.ownBlock:=λq hq e=>by have:=(h.ownR.lt q e.symm).1;omega
 have r:∀b,b<wr.heap.size->some b≠ur.ownBlock->some b≠ur'.ownBlock:=λb c a e=>by
  rcases o with k|k;·exact a<|by rw[<-k];exact e
  rw[k]at e;injection e with e;omega
 have keep:∀b,b<wr.heap.size->b≠bx->some b≠ur.ownBlock->(w6.setCell (Hk bx 3) ur').heap[b]?=wr.heap[b]?:=λb a j x=>(Below.heap_setCell _ _ _ _ j).trans (d.block b a x);refine⟨d.os.trans h.os,d.tape.trans h.tape,d.output.trans h.output,by rw[Xd];omega,λq a j=>(keep q oM j<|p q a).trans (h.fr q a j),((h.box.of_block<|d.block bx oM (p _ s)).set 3 ur').congr (λi _=>by by_cases e:i=3<;>simp[e]),?_,by simp[h.len],λi z=>?_,?_,λg e=>?_⟩
 .rw[aQ];exact ownsRow_setCell_below B s _
 .by_cases e:i<zs.length
  .let⟨t,v,e1,m⟩:=h.rows i e;refine⟨t,v,?_,?_⟩;·rw[dL (by rw[h.len];exact e),fA e];exact e1
   rw[fA e];refine(m.mono (Q:=λb=>W2.heap.size<=b/\some b≠ur.ownBlock/\some b≠ur'.ownBlock/\some b≠ud.ownBlock) λb c q=>⟨q.1,q.2.1,r b c q.2.1,q.2.2⟩).keep (λb c q=>keep b c oM q.2.1) (by rw[Xd];omega) |>.mono λb _ q=>⟨q.1,q.2.2.1,q.2.2.2⟩
  have w:i=zs.length:=by simp at z;omega
  subst w;refine⟨f,c5,?_,?_⟩;·rw[eV (by rw[h.len];exact aA _),h.len];simp
  rw[fN<|aA _];simp only[kL,eM];have m:Yv wr (λb=>B0<=b) f ys:=Yv.of_at A (aA _) λb a _=>a;have C:=m.mono (Q:=λb=>W2.heap.size<=b/\some b≠ur'.ownBlock/\some b≠ud.ownBlock/\some b≠ur.ownBlock) (λb c q=>⟨oM,r b c (λe=>by have:=n b e.symm;omega),λe=>by have:=y b e.symm;omega,λe=>by have:=n b e.symm;omega⟩);exact(C.keep (w':=w6.setCell (Hk bx 3) ur') (λb c q=>keep b c oM q.2.2.2) (by rw[Xd];omega)).mono λb _ q=>⟨q.1,q.2.1,q.2.2.1⟩
 .refine Zl h.ownD λg e=>keep g (h.ownD.lt g e).2 (oN<|(h.ownD.lt g e).1) λe2=>h.ne g e2.symm e
 rcases o with k|k;·rw[k]at e;exact h.ne g e
 rw[k]at e;injection e with e;intro e2;have:=(h.ownD.lt g e2).2;omega
theorem Ix.pushD{x:Int}(h:Ix W2 bx f0 wr ur ud rs zs ds)(n:bx<W2.heap.size)(c:wr.grownBy w6 ud.ownBlock)(w:w6.ownsRow W2.heap.size 2 1 ud' (ds.length+1) (ds.map (Value.int .i64)++[.int .i64 x]))(s:ud'.ownBlock=ud.ownBlock\/ud'.ownBlock=some wr.heap.size) :
 Ix W2 bx f0 (w6.setCell ⟨bx,4,none⟩ ud') ur ud' rs zs (ds++[x]):=by
 have A:=h.size;have B:=c.size;have j:∀q,q<W2.heap.size->some q≠ud.ownBlock:=λq hq e=>by have:=(h.ownD.lt q e.symm).1;omega
 have m:∀b,b<wr.heap.size->some b≠ud.ownBlock->some b≠ud'.ownBlock:=λb f a e=>by
  rcases s with k|k;·exact a<|by rw[<-k];exact e
  rw[k]at e;injection e with e;omega
 have keep:∀b,b<wr.heap.size->b≠bx->some b≠ud.ownBlock->(w6.setCell (Hk bx 4) ud').heap[b]?=wr.heap[b]?:=λb a d r=>(Below.heap_setCell _ _ _ _ d).trans (c.block b a r);refine⟨c.os.trans h.os,c.tape.trans h.tape,c.output.trans h.output,by rw[Xd];omega,λq a d=>(keep q oM d<|j q a).trans (h.fr q a d),((h.box.of_block<|c.block bx oM (j _ n)).set 4 ud').congr (λi _=>by by_cases e:i=4<;>simp[e]),Zl h.ownR λg e=>keep g (h.ownR.lt g e).2 (oN<|(h.ownR.lt g e).1) λe2=>h.ne g e e2.symm,h.len,λi t=>?_,?_,λg e e2=>?_⟩
 .let⟨o,p,e1,y⟩:=h.rows i t;refine⟨o,p,e1,?_⟩;have z:=y.mono (Q:=λb=>W2.heap.size<=b/\some b≠ur.ownBlock/\some b≠ud'.ownBlock/\some b≠ud.ownBlock) λb f q=>⟨q.1,q.2.1,m b f q.2.2,q.2.2⟩;exact(z.keep (w':=w6.setCell (Hk bx 4) ud') (λb f q=>keep b f oM q.2.2.2) (by rw[Xd];omega)).mono λb _ q=>⟨q.1,q.2.1,q.2.2.1⟩
 .rw[Yl,aQ];exact ownsRow_setCell_below w n _
 have v:=(h.ownR.lt g e).2;exact m g v (λe3=>h.ne g e e3.symm) e2.symm
theorem Ix.fin(h:Ix W2 bx f0 wr ur ud rs zs ds):(∃a c,ur=.slice a zs.length c/\TA wr (λb=>W2.heap.size<=b) a zs)/\∃a c,ud=.slice a ds.length c/\Yv wr (λb=>W2.heap.size<=b) a ds:=by
 refine⟨?_,?_⟩
 .rcases Vc h.ownR with⟨e1,e2,_⟩|⟨g,c,e1,hg,_⟩
  .have n:zs.length=0:=by rw[<-h.len];exact e2
   exact⟨none,0,by rw[e1,n],λi d=>absurd d oM⟩
  refine⟨_,c,by rw[e1,h.len],λi d=>?_⟩;let⟨e,f,e3,m⟩:=h.rows i d;refine⟨g,0,rfl,hg,e,f,?_,m.mono λb _ q=>q.1⟩;have:=h.ownR.cells (g:=g) (by rw[e1];rfl) i _ e3;rw[aV];by_cases e4:i=0;·subst e4;simpa [Addr.add]using this
  simpa [Addr.add,e4]using this
 let⟨a,c,j,d⟩:=Xk h.ownD;exact⟨a,c,j,Yv.of_at d (aA _) λb k _=>k⟩
end
structure MA(w:World)(V:Nat)(a:Option Addr)(n c:Nat)(xs:List Xe)(wr:World)(u:Value)(k:Nat)(cs:List Value):Prop where
 low:Below w.heap.size w wr
 sz:w.heap.size+2<=wr.heap.size
 f0:wr.cell? ⟨w.heap.size,0,none⟩=some (.int .i64 (V:Int))
 f1:wr.cell? ⟨w.heap.size,1,none⟩=some (.slice a n c)
 own:wr.ownsRow (w.heap.size+1) 117 6 u k cs
 fa:∀i (h:i<xs.length),i<k->VO wr (λb=>w.heap.size+2<=b/\some b≠u.ownBlock) (λj=>cs.getD (i*6+j) (.slice none 0 0)) xs[i] (XP xs i)
theorem MA.next{w:World}{V:Nat}{E:Option Addr}{I c:Nat}{s:List Xe}{wr i o:World}{u u':Value}{k:Nat}{m:List Value}{f:Nat->Value}(h:MA w V E I c s wr u k m)(T:k<s.length)(n:Below wr.heap.size wr i)(O:VO i (λb=>wr.heap.size<=b) f s[k] (XP s k))(g:i.grownBy o u.ownBlock)(Q:o.ownsRow (w.heap.size+1) 117 6 u' (k+1) (m++[f 0,f 1,f 2,f 3,f 4,f 5]))(M:u'.ownBlock=u.ownBlock\/u'.ownBlock=some i.heap.size) :
 MA w V E I c s o u' (k+1) (m++[f 0,f 1,f 2,f 3,f 4,f 5]):=by
 have W:=h.sz;have R:=n.size;have H:=g.size;have U:=h.low.size;have C:=λJ e=>h.own.lt J e;have N:=h.own.1;have D:∀q,q<=w.heap.size->o.heap[q]?=wr.heap[q]?:=λq hq=>(g.block q oM λe=>by have:=C q e.symm;omega).trans (n.block q oM)
 refine⟨⟨g.os.trans<|n.os.trans h.low.os,g.tape.trans<|n.tape.trans h.low.tape,g.output.trans<|n.output.trans h.low.output,oM,λq hq=>(D q oM).trans (h.low.block q hq)⟩,oM,(Xc<|D _ (aA _)).trans h.f0,(Xc<|D _ (aA _)).trans h.f1,Q,λr P S=>?_⟩;have G:∀b,b<i.heap.size->some b≠u.ownBlock->some b≠u'.ownBlock:=λb d p e=>by
  rcases M with q|q;·exact p<|by rw[<-q];exact e
  rw[q]at e;injection e with e;omega
 by_cases e:r=k
 .subst e
  have v:=O.mono (Q:=λb=>(w.heap.size+2<=b/\some b≠u'.ownBlock)/\some b≠u.ownBlock) (λb d q=>⟨⟨oM,G b d λe=>by have:=C b e.symm;omega⟩,λe=>by have:=C b e.symm;omega⟩);have y:=(v.keep (w':=o) (λb d q=>g.block b d q.2) H).mono (Q:=λb=>w.heap.size+2<=b/\some b≠u'.ownBlock) λb _ q=>q.1;have a:∀j,j<6->(m++[f 0,f 1,f 2,f 3,f 4,f 5]).getD (r*6+j) Hq=f j:=λj F=>by
   rw[bF,eV oM,N,Nat.add_sub_cancel_left]
   match j,F with
   |0,_=>rfl
   |1,_=>rfl
   |2,_=>rfl
   |3,_=>rfl
   |4,_=>rfl
   |5,_=>rfl
  let⟨t,p,x,z,A,B⟩:=y;exact⟨by rw[a 0 vZ];exact t,by rw[a 1 vZ];exact p,by rw[a 2 vZ];exact x,by rw[a 3 vZ];exact z,by rw[a 4 vZ];exact A,by rw[a 5 vZ];exact B⟩
 have p:=h.fa r P oM
 have v:=p.keep (w':=i) (λb d _=>n.block b d) R;have L:=v.mono (Q:=λb=>(w.heap.size+2<=b/\some b≠u'.ownBlock)/\some b≠u.ownBlock) λb d q=>⟨⟨q.1,G b d q.2⟩,q.2⟩;have y:=(L.keep (w':=o) (λb d q=>g.block b d q.2) H).mono (Q:=λb=>w.heap.size+2<=b/\some b≠u'.ownBlock) λb _ q=>q.1;have a:∀j,j<6->(m++[f 0,f 1,f 2,f 3,f 4,f 5]).getD (r*6+j) Hq=m.getD (r*6+j) Hq:=λj F=>by
  rw[bF,bF,dL oM]
 let⟨t,K,x,z,A,B⟩:=y;exact⟨by rw[a 0 vZ];exact t,by rw[a 1 vZ];exact K,by rw[a 2 vZ];exact x,by rw[a 3 vZ];exact z,by rw[a 4 vZ];exact A,by rw[a 5 vZ];exact B⟩
theorem Dn{w:World}{L B:Nat}{c:Addr}{a:List Int}(h:Xf w L B (some c) a):∀(j:Nat)(u:Value),(a.map<|Value.int .i64)[j]?=some u->w.cell? (c.add j)=some u:=λj u d=>by
 have f:j<a.length:=by have:=(cV.1 d).1;simpa using this
 let⟨b,o,e,_,g⟩:=h j f;injection e with e;subst e;have i:Hp a[j]=u:=by simpa [f]using d
 rw[<-i,<-g];by_cases e:j=0<;>simp[Addr.add,e]
theorem qp{V:Nat}{a:List Xe}(b:Jy V a)(p t:Int):(HK a p t).length<=4000000:=by
 unfold HK;split;·simp
 rename_i x e;split;·simp
 have c:=nX (AQ a 0 t) x.ps p (AQ a 0 t).length;have f:=YO t a 0;have g:=b.okf.n2;have d:=(b.lens x<|eN e).2;exact aJ c<|aJ (lO (show(AQ a 0 t).length<=1000 by omega) d) vZ
theorem V8{V:Nat}{b:List Xe}(a:Jy V b)(p:Int):∀l:List Int,(l.flatMap<|HK b p).length<=l.length*4000000
 |[]=>sP
 |t::l=>by
  have c:=V8 a p l;have d:=qp a p t;rw[jF,aQ,bA];omega
theorem z8{a:List Xe}{p:Int}{l:List Int}{j:Nat}(h:j<l.length):(l.take<|j+1).flatMap (HK a p)=(l.take j).flatMap (HK a p)++HK a p l[j]:=by
 rw[bN h,eZ];simp
structure Md(wr Y:World)(bx:Nat)(X:Xe)(f0:Nat->Value):Prop where
 low:Below wr.heap.size wr Y
 b1:wr.heap.size<=bx
 box:Y.rowIs bx 117 6 f0
 n2:f0 2=.slice none 0 0
 n3:f0 3=.slice none 0 0
 n4:f0 4=.slice none 0 0
 e0:∃a c,f0 0=.slice a X.te.tg.length c/\Yv Y (λb=>wr.heap.size<=b/\b≠bx) a X.te.tg
 e1:∃a c,f0 1=.slice a X.ps.length c/\Yv Y (λb=>wr.heap.size<=b/\b≠bx) a (X.ps.map Ph.dst)
 e5:∃a c,f0 5=.slice a (G2 X.te).length c/\Yv Y (λb=>wr.heap.size<=b/\b≠bx) a (G2 X.te)
def uy(c a b:Value)(i:Nat):Value:=if i=0 then c else if i=1 then a else if i=5 then b else .slice none 0 0
structure LV(u W:World)(o:Option Nat)(I:List (Option Addr×List Int)):Prop where
 s:Below u.heap.size u W
 bx:∀b,o=some b->W.rowIs b 117 6 (λ_=>.slice none 0 0)/\u.heap.size<=b
 il:∀x∈I,Yv W (λb=>u.heap.size<=b/\o≠some b) x.1 x.2
theorem LV.next{u W a:World}{o:Option Nat}{I:List (Option Addr×List Int)}(h:LV u W o I)(k:Below W.heap.size W a):LV u a o I :=
 ⟨Xg h.s k,λb e=>⟨(h.bx b e).1.of_block (k.block _ (h.bx b e).1.lt),(h.bx b e).2⟩,λx d=>(h.il x d).keep (λb c _=>k.block b c) k.size⟩
theorem LV.add{u W a:World}{o:Option Nat}{I:List (Option Addr×List Int)}{d:Option Addr}{e:List Int}(h:LV u W o I)(k:Below W.heap.size W a)(i:Xf a W.heap.size a.heap.size d e):LV u a o ((d,e)::I):=by
 refine⟨(h.next k).s,(h.next k).bx,λx c=>?_⟩;rcases cH.1 c with rfl|c;·exact Yv.of_at i (aA _) λb g _=>⟨aJ h.s.size g,λf=>by have:=(h.bx b f).1.lt;omega⟩
 exact(h.next k).il x c
theorem LV.box{u W:World}{I:List (Option Addr×List Int)}(h:LV u W none I):∃a,a=W.heap.size/\LV u (W.alloc<|.cells #[.slice none 0 0,.slice none 0 0,.slice none 0 0,.slice none 0 0,.slice none 0 0,.slice none 0 0] 117) (some a) I:=by
 refine⟨_,rfl,Xb h.s _,λb e=>?_,λx g=>((h.il x g).mono λb j c=>⟨c.1,λe=>by cases e;omega⟩).keep (λb d _=>Below.heap_alloc _ _ _ d) sP⟩;cases e;exact⟨eK _ _ _ _ (λi f=>by match i,f with|0,_=>rfl|1,_=>rfl|2,_=>rfl|3,_=>rfl|4,_=>rfl|5,_=>rfl),h.s.size⟩
theorem wT{wr Z:World}{bx:Nat}{X:Xe}{f d e:Option Addr}{cT cP cR:Nat}(h:LV wr Z (some bx) [(e,G2 X.te),(d,X.ps.map Ph.dst),(f,X.te.tg)]) :
 Md wr ((((((Z.setCell ⟨bx,0,none⟩ (.slice f X.te.tg.length cT)).setCell ⟨bx,1,none⟩ (.slice d X.ps.length cP)).setCell ⟨bx,2,none⟩ (.slice none 0 0)).setCell ⟨bx,3,none⟩ (.slice none 0 0)).setCell ⟨bx,4,none⟩ (.slice none 0 0)).setCell ⟨bx,5,none⟩ (.slice e (G2 X.te).length cR)) bx X (uy (.slice f X.te.tg.length cT) (.slice d X.ps.length cP) (.slice e (G2 X.te).length cR)):=by
 let⟨m,a⟩:=h.bx bx rfl;have c:∀{W:World}{j:Option Addr}{k:List Int}(i:Nat)(v:Value),Yv W (λb=>wr.heap.size<=b/\b≠bx) j k->Yv (W.setCell (Hk bx i) v) (λb=>wr.heap.size<=b/\b≠bx) j k:=λi v r=>r.keep (λb _ q=>Below.heap_setCell _ _ _ _ q.2) sP;have g:=λx p s v1 v2 v3 v4 v5=>c 5 v5 (c 4 v4<|c 3 v3 (c 2 v2<|c 1 v1 (c 0 s<|(h.il x p).mono λb _ q=>⟨q.1,λn=>q.2<|by rw[n]⟩)));refine⟨((((((h.s.setCell a _).setCell a _).setCell a _).setCell a _).setCell a _).setCell a _),a,((((((m.set 0 _).set 1 _).set 2 _).set 3 _).set 4 _).set 5 _).congr λi o=>?_,rfl,rfl,rfl,⟨f,cT,rfl,g (f,X.te.tg) sP _ _ _ _ _ _⟩,⟨d,cP,rfl,g (d,X.ps.map Ph.dst) sP _ _ _ _ _ _⟩,⟨e,cR,rfl,g (e,G2 X.te) sP _ _ _ _ _ _⟩⟩;unfold uy
 match i,o with
 |0,_=>rfl
 |1,_=>rfl
 |2,_=>rfl
 |3,_=>rfl
 |4,_=>rfl
 |5,_=>rfl
def uv(a v1 v2 v3 v4 v5:Value):Nat->Value
 |0=>a
 |1=>v1
 |2=>v2
 |3=>v3
 |4=>v4
 |_=>v5
def YQ(w:World)(d:Option Addr)(a:List Xe):Prop:=∀i (h:i<a.length),∃b o c,d=some ⟨b,o,none⟩/\b<w.heap.size/\(∀j,j<6->w.cell? ⟨b,o+i*6+j,none⟩=some (c j))/\VO w (λ_=>True) c a[i] (XP a i)
theorem YQ.keep{w w':World}{a:Option Addr}{d:List Xe}(h:YQ w a d)(k:Below w.heap.size w w'):YQ w' a d:=λm i=>by
 let⟨b,o,p,e,c,f,g⟩:=h m i;exact⟨b,o,p,e,aX c k.size,λn j=>(Xc<|k.block b c).trans (f n j),g.keep (λq hq _=>k.block q hq) k.size⟩
def WJ(w:World)(c:Nat)(e:Option Addr)(a:List Xe):Prop:=∀i (h:i<a.length),∃b o d,e=some ⟨b,o,none⟩/\(c<=b/\b<w.heap.size)/\(∀j,j<6->w.cell? ⟨b,o+i*6+j,none⟩=some (d j))/\VO w (λq=>c<=q) d a[i] (XP a i)
theorem WJ.at_{w:World}{d:Nat}{a:Option Addr}{c:List Xe}(h:WJ w d a c):YQ w a c:=λk j=>by
 let⟨b,o,m,e,f,g,i⟩:=h k j;exact⟨b,o,m,e,f.2,g,i.mono λ_ _ _=>trivial⟩
theorem MA.fin{w:World}{V:Nat}{m:Option Addr}{n c:Nat}{d:List Xe}{wr:World}{u:Value}{a:List Value}(h:MA w V m n c d wr u d.length a):∃f e,u=.slice f d.length e/\WJ wr w.heap.size f d:=by
 rcases Vc h.own with⟨e1,e2,_⟩|⟨g,e,e1,hg,_⟩;·exact⟨none,0,by rw[e1,e2],λi b=>absurd b oM⟩
 have o:=h.own.1;refine⟨_,e,e1,λi b=>⟨g,0,λj=>a.getD (i*6+j) Hq,rfl,⟨oN hg.1,hg.2⟩,λj p=>?_,(h.fa i b b).mono λq _ hq=>by have:=hq.1;omega⟩⟩;have k:i*6+j<a.length:=oM;have:=h.own.cells (g:=g) (by rw[e1];rfl) (i*6+j) (a[i*6+j]) (aC k);show wr.cell? (Hk g<|0+i*6+j)=some (a.getD (i*6+j) Hq);rw[aV,bF,aC k];rw[jn]at this;exact this
end
theorem rd(x:Xe)(E:List Int)(q:Nat->Value)(v:Int)(w:World)(h:Hs (VO w (λ_=>True) q x E))(bb:Hs (x.is.length<=4000))(hE:Hs (E.length<=8000000))(F G u2 u3 u4 u5:Value)(V:q 2=u2)(X:q 3=u3)(Y:q 4=u4)(Z:q 5=u5) :
 Calls prog 52 #[.agg #[F,G,u2,u3,u4,u5],Hp v] w λz w'=>z=.returned (Hp (Hd x E v:Nat))/\Below w.heap.size w w':=by
 let⟨j,c2,e2,i2⟩:=h.e2;let⟨t,c3,e3,i3⟩:=h.e3;let⟨u,c4,e4,i4⟩:=h.e4;let⟨l,c5,e5,i5⟩:=h.e5;rw[e2]at V;rw[e3]at X;rw[e4]at Y;rw[e5]at Z;subst V X Y Z;have H2:=Xa i2;have H3:=Xa i3;have H4:=Xa i4;have H5:=Xa i5;have s:Hs ((Jv x).length=x.is.length):=Xa (by unfold Jv;simp);have aq:Hs ((Z2 x).length=x.is.length):=Xa (by unfold Z2;simp);let⟨a,o⟩:∃m,m=(Jv x).length:=⟨_,rfl⟩;let⟨n4,B⟩:∃m,m=(Z2 x).length:=⟨_,rfl⟩;let⟨g,C⟩:∃m,m=(G2 x.te).length:=⟨_,rfl⟩;let⟨f,A⟩:∃m,m=E.length:=⟨_,rfl⟩;rw[<-o,<-B,<-C,<-A];have a0:a=n4:=by rw[o,B,s.o,aq.o]
 subst a0;have bc:a<=4000:=by rw[o,s.o];exact bb
 have bf:g<=1:=by rw[C];unfold G2;split<;>simp
 have bd:f<=8000000:=by rw[A];exact hE
 have J:=Xa o;have ay:=Xa B;have az:=Xa C;have ax:=Xa A;clear o B C A e2 e3 e4 e5 i2 i3 i4 i5;have ad:Hs (Hd x E v=Ya v (Bs (G2 x.te) v||Bs E v) x.is):=Xa rfl;generalize Hd x E v=b at*;have n:Below w.heap.size w (w.alloc<|.cells #[F,G,.slice j f c2,.slice t a c3,.slice u a c4,.slice l g c5] 117):=Xb (Below.refl _ _) _;have hc:∀P Q,#[F,G,Value.slice j f c2,.slice t a c3,.slice u a c4,.slice l g c5][P]?=some Q->(w.alloc<|.cells #[F,G,.slice j f c2,.slice t a c3,.slice u a c4,.slice l g c5] 117).cell? (Hk w.heap.size P)=some Q:=λP Q h=>by
  rw[eC];exact h
 go_in
 go_wp2_with fail
 have c:=Xa n;have i:=Xa hc;generalize w.alloc _=W at*;have k2:Cl W w.heap.size 2 (.slice j f c2):=i 2 _ rfl;have k3:Cl W w.heap.size 3 (.slice t a c3):=i 3 _ rfl;have k4:Cl W w.heap.size 4 (.slice u a c4):=i 4 _ rfl;have k5:Cl W w.heap.size 5 (.slice l g c5):=i 5 _ rfl;have bl:=n.size;have ab:=Xa<|H2.at_.keep n;have ac:=Xa<|H5.at_.keep n;have aj:=Xa<|mq j f c2 v E 0 w.heap.size W ab ax oM;have ao:=Xa<|YF l g c5 v (G2 x.te) 0 w.heap.size W ac az oM;clear n hc i
 go_loop [5] (λO=>∃k:Nat,k<=a/\O=Hp k/\Hs (b=Ya v (Bs (G2 x.te) v||Bs E v) (x.is.drop k))) λO=>a-(intOf O).toNat
 case atStart=>exact⟨0,aN _,rfl,Xa<|by rw[ad.o];rfl⟩
 obtain⟨k,hk,rfl,I⟩:=hrel;by_cases N:k<a
 .have ba:k<x.is.length:=by rw[<-s.o,<-J.o];exact N
  have a8:k<(Jv x).length:=by rw[<-J.o];exact N
  have a9:k<(Z2 x).length:=by rw[<-ay.o];exact N
  obtain⟨b3,o3,rfl,⟨_,a1⟩,ar,cr,L,M⟩:=H3 k a8;obtain⟨b4,o4,rfl,⟨_,a6⟩,K⟩:=H4 k a9;have U:(Jv x)[k]=Ft x.is[k]:=by simp[Jv]
  have T:(Z2 x)[k]=Fa x.is[k]:=by simp[Z2]
  rw[U]at L M;rw[T]at K;have l3:=oB c L a1;have l4:=oB c K a6;have S:Hs (Ya v (Bs (G2 x.te) v||Bs E v) (x.is.drop k)=if Bs (Ft x.is[k]) v then 1 else if Fa x.is[k]=v then 2 else Ya v (Bs (G2 x.te) v||Bs E v) (x.is.drop<|k+1)):=Xa (by rw[gZ ba];rfl);have ap:=Xa<|M.at_.keep c;let⟨nr,D⟩:∃m,m=(Ft x.is[k]).length:=⟨_,rfl⟩;rw[<-D]at l3;have bi:nr<=2:=by rw[D];exact jx _
  have al:=Xa<|YF ar nr cr v (Ft x.is[k]) 0 w.heap.size W ap (Xa D) oM;clear L K M U T D;generalize Ft x.is[k]=ri at*;generalize Fa x.is[k]=y at*;go_wp2_with fail
  refine al.mono ?_;rintro z w3⟨rfl,p⟩;rw[p];clear p;cases hh:Bs ri v with
  |true=>
   have d:Hs (b=1):=Xa (by rw[I.o,S.o,hh];rfl);clear hh;go_wp2;go_ret;exact⟨by rw[d.o];rfl,c⟩
  |false=>
   have R:Hs (b=if y=v then 2 else Ya v (Bs (G2 x.te) v||Bs E v) (x.is.drop<|k+1)):=Xa (by rw[I.o,S.o,hh];rfl);clear hh;by_cases e:y=v
   .have d:Hs (b=2):=Xa (by rw[R.o,aU e]);have a7:(y==v)=true:=by simp[e]
    clear e;go_wp2;go_ret;exact⟨by rw[d.o];rfl,c⟩
   have af:Hs (b=Ya v (Bs (G2 x.te) v||Bs E v) (x.is.drop<|k+1)):=Xa (by rw[R.o,aM e]);have a7:(y==v)=false:=by simp[e]
   clear e;go_wp2_with fail
   go_round
   case rel=>exact⟨k+1,oM,gM,af⟩
   simp[intOf];omega
 have d:Hs (b=if (Bs (G2 x.te) v||Bs E v)then 1 else 0):=Xa (by rw[I.o,mP<|by rw[<-s.o,<-J.o];omega];rfl);go_wp2_with fail
 refine ao.mono ?_;rintro z w3⟨rfl,p⟩;rw[p];clear p;cases ht:Bs (G2 x.te) v with
 |true=>
  have r:Hs (b=1):=Xa (by rw[d.o,ht];rfl);clear ht;go_wp2;go_ret;exact⟨by rw[r.o];rfl,c⟩
 |false=>
  have r:Hs (b=if Bs E v then 1 else 0):=Xa (by rw[d.o,ht];rfl);clear ht;go_wp2_with fail
  refine aj.mono ?_;rintro z w4⟨rfl,aa⟩;rw[aa];clear aa;cases ht:Bs E v with
  |true=>
   have H:Hs (b=1):=Xa (by rw[r.o,ht];rfl);clear ht;go_wp2;go_ret;exact⟨by rw[H.o];rfl,c⟩
  |false=>
   have H:Hs (b=0):=Xa (by rw[r.o,ht];rfl);clear ht;go_wp2;go_ret;exact⟨by rw[H.o];rfl,c⟩
def Jn(w:World):Prop:=∀j,j<64->w.cell? ⟨2,j,none⟩=some (.int .u8 (Lib.deBruijn64tab.getD j 0))
theorem Jn.of_block(h:Jn w)(e:v.heap[(2: Nat)]?=w.heap[(2: Nat)]?):Jn v:=λj a=>(Xc (o:=j) e).trans (h j a)
theorem DQ(x a:Nat)(c:x<18446744073709551616)(d:x≠0)(b:x&&&(18446744073709551616-x)=a) :
 IntKind.u64.wrap (bits BinOp.and IntKind.u64 (x:Int) (IntKind.u64.wrap (-(x:Int)))*285870213051353865)/288230376151711744=((a*285870213051353865%18446744073709551616/288230376151711744:Nat):Int):=by
 have e1:IntKind.u64.wrap (-(x:Int))=((18446744073709551616-x:Nat):Int):=by rw[iV];omega
 rw[e1,bits_and_u64_nat x _ c oM,b,iV];omega
theorem Dt(x k a:Nat)(w:World)(h:((x:Int)==0)=false)
 (b:IntKind.u64.wrap (bits BinOp.and IntKind.u64 (x:Int) (IntKind.u64.wrap (-(x:Int)))*285870213051353865)/288230376151711744=(a:Int))
 (f:a<64) (g:k<64) (d:w.cell? (Hk 2 a)=some (.int .u8 k)) :
 Calls prog 124 #[.int .u64 x] w λe c=>e=.returned (Hp k)/\c=w:=by
 go_in
 go_wp2_with (simp only[b])
 go_ret;exact⟨rfl,rfl⟩
theorem DD(x:Nat)(d:x<18446744073709551616)(e:x≠0)(w:World)(g:Hs (Jn w)) :
 Calls prog 124 #[.int .u64 x] w λf j=>f=.returned (Hp (Lib.ctz 64 x:Nat))/\j=w:=by
 let⟨h,c⟩:=Lib.lowest_bit 64 x e d;let⟨b,i⟩:=Lib.deBruijn64_at _ c;have a:=g _ b;rw[i]at a;exact Dt x _ _ w (by simp;omega) (DQ x _ d e h) b c a
theorem l7(a:n≠0)(h:n<2^64):∃m,n=2^Lib.ctz 64 n*(2*m+1)/\Lib.ctz 64 n<64:=by
 have e:Lib.ctz 64 n=Lib.ctzFrom 64 n:=by simp[Lib.ctz,a]
 rw[e];exact Lib.ctzFrom_spec 64 n oM h
theorem mm(c m i:Nat):(2^c*m).testBit i=(decide (c<=i)&&m.testBit (i-c)):=by
 rw[Nat.mul_comm,Nat.testBit_mul_two_pow]
theorem Cy(m i:Nat):(2*m+1).testBit i=(decide (i=0)||(2*m).testBit i):=by
 cases i with
 |zero=>simp
 |succ i=>
  rw[Nat.testBit_succ,Nat.testBit_succ];have a:(2*m+1)/2=m:=oM;have b:2*m/2=m:=oM;rw[a,b];simp
theorem Dl(b:n≠0)(h:n<2^64)(i:Nat):(n&&&(n-1)).testBit i=(n.testBit i&&decide (i≠Lib.ctz 64 n)):=by
 let⟨m,a,g⟩:=l7 b h;generalize Lib.ctz 64 n=c at*;have j:=Nat.two_pow_pos c;have e1:n-1=2^c*(2*m)+(2^c-1):=by rw[a,Nat.mul_add];omega
 rw[jW,e1,iH _ oM,a,mm];by_cases f:i<c
 .have:¬c<=i:=oM;simp[this]
 have d:c<=i:=oM;simp only[f,d,decide_true,Bool.true_and,fD];rw[Cy];by_cases e:i=c;·subst e;simp
 have:¬i-c=0:=oM;simp[this,e]
theorem DP(a:n≠0)(h:n<2^64):n.testBit (Lib.ctz 64 n)=true/\∀i,i<Lib.ctz 64 n->n.testBit i=false:=by
 let⟨m,b,d⟩:=l7 a h;generalize Lib.ctz 64 n=c at*;rw[b];refine⟨?_,λi e=>?_⟩;·rw[mm];simp
 rw[mm];have:¬c<=i:=oM;simp[this]
def Hc(W:Nat->Nat)(p:Nat):List Nat:=(List.range p).filter (Xh W)
theorem nj(c:n<=m)(h:∀i,n<=i->i<m->Xh f i=false):Hc f m=Hc f n:=by
 unfold Hc;obtain⟨d,rfl⟩:∃d,m=n+d:=⟨m-n,oM⟩;rw[lI,eU];have:((List.range d).map (n + ·)).filter (Xh f)=[]:=by
  rw[mJ];intro x b;obtain⟨j,a,rfl⟩:=aY.1 b;rw[h (n+j) oM (oN<|bE.1 a)];simp
 rw[this,fF]
theorem C8(a:n<=m)(h:∀i,n<=i->i<m->Xh f i=false)(hq:Xh f m=true):Hc f (m+1)=Hc f n++[m]:=by
 rw[<-nj a h];unfold Hc;rw[dN,eU];simp[hq]
theorem jo:m∈Hc f n↔m<n/\Xh f m=true:=by unfold Hc;rw[fG,bE]
inductive Wh (xs:List Xe) (v:Nat):Nat->Prop
 |here {b:Nat}:b<xs.length->Cp xs b v=1->Wh xs v b
 |step {b t:Nat}:b<xs.length->Cp xs b v=0->t∈X8 xs b->Yo xs t v=false->Wh xs v t->Wh xs v b
def LM(a:List Xe)(v b:Nat):Prop:=Yo a b v=false/\Wh a v b
def UV(a:List Xe)(v b:Nat):Prop:=(v:Int)∈XP a b\/∃t∈X8 a b,LM a v t
theorem ny(a:List Xe)(b v:Nat):Cp a b v<=2:=by
 unfold Cp;split;·exact aN _
 exact Vg _
theorem Wh.lt{b:Nat}(h:Wh x n b):b<x.length:=by
 cases h with
 |here h _=>exact h
 |step h _ _ _ _=>exact h
theorem ti(c:Jy n x)(h:∀i (l:i<x.length),M i=I4 x[i] (N i))(j:∀b,b<x.length->∀m,Xh (N b) m=true↔(b,m)∈IE x x.length){b:Nat}(a:b<x.length):Xh (M b) m=true↔Yo x b m=false/\Cp x b m=1:=by
 have e:=aH a;rw[h b a,sQ (λy f=>⟨λz d=>(c.rdi _ e y f z d).1,λz d=>(c.wri _ e y f z d).1⟩) (λz d=>(c.rdt _ e z d).1) λp k=>(c.phd _ e p k).1];unfold Yo Cp Hd;rw[aC a];simp only;have g:Xh (N b) m=Bs (XP x b) (m:Int):=by rw[eQ,j b a,XD,KE c a]
 rw[g,<-gU,XD]
theorem CO(g:Jy n x)(j:∀i (h:i<x.length),M i=I6 x[i]){b:Nat}(d:b<x.length)(a:Yo x b m=false)(c:Cp x b m=0):Xh (M b) m=false:=by
 have f:=aH d;rw[j b d,<-gU,WK (λy e z l=>(g.wri _ f y e z l).1) λp k=>(g.phd _ f p k).1];unfold Yo at a;unfold Cp Hd at c;rw[aC d]at a c;simp only at a c;rintro(h|⟨y,e,h⟩);·rw[XD.2 h]at a;cases a
 exact UQ _ c y e h
theorem D3(f:Jy n x)(g:∀i (h:i<x.length),M i=I6 x[i]){b:Nat}(c:b<x.length)(h:Xh (M b) m=false):Yo x b m=false/\Cp x b m≠2:=by
 have e:=aH c;rw[g b c,<-gU,WK (λy d z k=>(f.wri _ e y d z k).1) λp j=>(f.phd _ e p j).1]at h;unfold Yo Cp Hd;rw[aC c];simp only;refine⟨?_,Ud _ λy d a=>h<|aZ ⟨y,d,a⟩⟩;rw[<-gU,XD];exact λa=>h<|bC a
theorem Dy(f:Jy n x){l:Nat->Nat->Nat}(p:∀i (j:i<x.length),M i=I4 x[i] (l i))(r:∀i (j:i<x.length),N i=I6 x[i])(q:∀b,b<x.length->∀m,Xh (l b) m=true↔(b,m)∈IE x x.length){ord:Nat->Prop}(v:∀b,b<x.length->ord b){b:Nat}(e:b<x.length) :
 Sp M N ord (X8 x) b m↔LM x m b:=by
 constructor
 .intro j
  induction j with
  |init g=>
   have a:=(ti f p q e).1 g;exact⟨a.1,Wh.here e a.2⟩
  |@take b z t g a c h k=>
   have d:=D3 f r e h;have o:=ny x b t;have w:=f.okf.tg _ e _ a;by_cases u:Cp x b t=1;·exact⟨d.1,Wh.here e u⟩
   have s:=k w;exact⟨d.1,Wh.step e (oN d.2) a s.1 s.2⟩
 rintro⟨g,a⟩
 induction a with
 |here c h=>exact Sp.init<|(ti f p q c).2 ⟨g,h⟩
 |@step b A c h d o y k=>exact Sp.take (v _ c) d (k (f.okf.tg _ c _ d) o) (CO f r c g h)
theorem rx(d:Jy n x){b:Nat}(i:b<x.length)(h:(m:Int)∈XP x b):m<n:=by
 have c:=(KE d i).1 h;unfold IE MO LH at c;let⟨t,a,e⟩:=bV.1 c;have a:=bE.1 a;rw[aC a]at e;let⟨p,j,f⟩:=bV.1 (show _∈List.flatMap _ x[t].ps from e);have g:=List.of_mem_zip f;let⟨z,k,l⟩:=aY.1 g.2;have:=(d.pha t a p j).2 z k;omega
theorem D9(f:Jy n x){b:Nat}(e:b<x.length)(a:Cp x b m=1):m<n:=by
 have g:=aH e;unfold Cp Hd at a;rw[aC e]at a;simp only at a;rcases TV _ a with c|⟨y,h,c⟩
 .rcases dI _ _▸c with d|d;·have:=(f.rdt _ g _<|XD.1 d).2;omega
  exact rx f e<|XD.1 d
 have:=(f.rdi _ g y h _ c).2;omega
theorem Wh.val(d:Jy n x){b:Nat}(h:Wh x m b):m<n:=by
 induction h with
 |here a c=>exact D9 d a c
 |step _ _ _ _ _ e=>exact e
theorem UV.val(a:Jy n x){b:Nat}(c:b<x.length)(h:UV x m b):m<n:=by
 rcases h with h|⟨t,_,h⟩;·exact rx a c h
 exact h.2.val a
theorem Ac{a:Nat->Bool}(e:∀b,b<x.length->a b=true->Wh x n b)(f:∀b,b<x.length->Cp x b n=1->a b=true)(g:∀b,b<x.length->Cp x b n=0->∀t∈X8 x b,a t=true->Yo x t n=false->a b=true){b:Nat}(l:b<x.length):a b=true↔Wh x n b:=by
 refine⟨e b l,λh=>?_⟩
 induction h with
 |here c d=>exact f _ c d
 |@step b t c d i j k m=>exact g b c d t i (m k.lt) j
def I0(b:List Xe)(a:Nat->Nat->Nat)(i:Nat):Nat->Nat:=(b[i]?).elim (λ_=>0) λx=>I4 x<|a i
def T0(a:List Xe)(i:Nat):Nat->Nat:=(a[i]?).elim (λ_=>0) I6
theorem um(h:n<x.length):I0 x M n=I4 x[n] (M n):=by simp[I0,h]
theorem ue(h:n<x.length):T0 x n=I6 x[n]:=by simp[T0,h]
theorem ED(h:XQ M):XQ (I0 x M):=λi=>by
 unfold I0;cases x[i]? with
 |none=>exact JW
 |some a=>exact Ej a<|h i
theorem Es:XQ (T0 x):=λi=>by
 unfold T0;cases x[i]? with
 |none=>exact JW
 |some a=>exact Dz a
theorem bg.congr(h:bg n w m k B f F M)(e:∀i,i<k->M i=N i):bg n w m k B f F N :=
 ⟨h.row,λi a=>by rw[<-e i a];exact h.set i a,h.inj,h.o⟩
def fj(a:List Xe):List (List Nat):=(List.range a.length).map (X8 a)
theorem Bi(a:List Xe):(λb=>(fj a).getD b [])=X8 a:=by
 funext b;unfold fj;by_cases h:b<a.length
 .simp[h]
 simp only[bF,dX];rw[dK<|by simp;omega];unfold X8;rw[dK oM];rfl
theorem WM(a:UF x)(h:n<x.length):Xi (X8 x n)=Ih x n:=by
 rw[Km h,VS h];exact Kv λv b=>(a.tgt _ (aH h) v b).1
structure MY(p:VD)(gi ci:Nat->Nat)(nx:Nat->Value)(ds:List Nat)(W:World)(WI:Nat->Nat->Nat):Prop where
 low:Below p.w.heap.size p.w W
 sz:p.M<=W.heap.size
 f0:W.cell? ⟨p.w.heap.size,0,none⟩=some (.int .i64 (p.V:Int))
 r0:W.cell? ⟨p.w.heap.size+1,0,none⟩=some (.slice none 0 0)
 r1:W.cell? ⟨p.w.heap.size+1,1,none⟩=some (.slice none 0 0)
 rz:∀q,W.frozen? ⟨p.w.heap.size+1,q,none⟩=false
 l0:W.cell? ⟨p.LB,0,none⟩=some (.slice (some ⟨p.Gi,0,none⟩) p.n p.n)
 l1:W.cell? ⟨p.LB,1,none⟩=some (.slice (some ⟨p.Go,0,none⟩) p.n p.n)
 o:XK W p.Go p.n p.Kw p.go (λ_=>p.Kw) p.WO
 inn:XK W p.Gi p.n p.Kw gi ci WI
 igM:∀i,i<p.n->p.M<=gi i
 nxr:W.rowIs p.Gn 27 p.n nx
 nxs:∀i,i<p.n->∃a' c',nx i=.slice a' (Ih p.xs i).length c'/\Yv W (λb=>p.M<=b) a' (Ih p.xs i)
 mks:ZJ W p.M ds
 wi:XQ WI
 ord:∃ord:List Nat,(∀b,b<p.n->b∈ord)/\∀b,b<p.n->∀x,x<64*p.Kw->(Xh (WI b) x=true↔Sp (I0 p.xs p.WO) (T0 p.xs) (·∈ord) (X8 p.xs) b x)
theorem LN.spread{p:VD}{d:Lu}(h:LN p w p.n d)(j:MG p)(q:Lk p p.n d)(E:ZJ w p.M s)(y:Jy p.V p.xs)(L:p.n=p.xs.length)(ab:XQ p.WO)(S:p.Kw<=100) :
 ∃m C,d.vS=.slice (some ⟨m,0,none⟩) d.Lf.length C/\Calls prog 85 #[.slice (some ⟨m,0,none⟩) d.Lf.length C,.slice (some ⟨p.Gn,0,none⟩) p.n p.n,.slice (some ⟨p.Gi,0,none⟩) p.n p.n,.slice (some ⟨p.Gd,0,none⟩) p.n p.n] w.drew λe r=>e=.returned (.tuple #[])/\(∃O,MY p d.gi d.ci d.nx s r O)/\(∀b,b<w.heap.size->b<p.M->r.heap[b]?=w.heap[b]?):=by
 have hz:=h.sz;have ax:1<=p.n:=oN y.okf.n1;have ay:p.n<=1000:=oN y.okf.n2;have J:=eJ<|q.mem 0 (q.sn 0 oM);have T:d.Lf.length<=1000:=oN q.len
 let⟨m,C,N,hg,_⟩:=Xm h.sea.own J;refine⟨m,C,N,?_⟩;have M:=h.sea.own;rw[N,show Je d.Lf=(Xi d.Lf).map (Value.int .i64) by simp[Je,Xi]]at M;let⟨a1,c1,e1,U⟩:=Xk M;injection e1 with e1 e2 e3;subst e1;have aj:=j.a1;have ap:=j.a5;have aq:=j.a8;have ar:=j.a9;have t:XK w p.Gi p.n p.Kw d.gi d.ci (I0 p.xs p.WO):=⟨h.inr.congr λi a=>by rw[aU a],λi a=>by rw[um oM,<-q.wi i oM a];exact h.ins i a,h.inj,λi a e=>by have:=h.igM i a;omega⟩;have u:XK w p.Gd p.n p.Kw p.gd (λ_=>p.Kw) (T0 p.xs):=h.defs.congr (λi a=>by rw[ue oM,q.wd i oM,aU a]);have X:∀i,i<p.n->w.cell? (Hk p.Gn<|0+i)=some (d.nx i):=λi a=>by
  rw[aV];exact(h.nxr.cell a).trans (by rw[aU a])
 have Z:TA w (λac=>∀i,i<p.n->ac≠d.gi i) (some ⟨p.Gn,0,none⟩) ((fj p.xs).map Xi):=λi a=>by
  have x:i<p.xs.length:=by simpa [fj]using a
  have K:i<p.n:=oM;let⟨z,A,e,F⟩:=h.nxs i K;have H:((fj p.xs).map Xi)[i]=Ih p.xs i:=by
   simp only[cM,fj,dW];exact WM y.okf x
  refine⟨p.Gn,0,rfl,⟨λl k e=>by have:=h.igM l k;omega,h.nxr.lt⟩,z,A,?_,?_⟩;·rw[H,X i K,e]
  rw[H];intro l k;let⟨b,o,e2,c,D⟩:=F l k;exact⟨b,o,e2,⟨c.1.2.1,c.2⟩,D⟩
 refine(wg m 0 d.Lf.length C d.Lf p.M w.heap.size (some ⟨p.Gn,0,none⟩) p.n p.n (fj p.xs) p.Gi p.Gd p.n p.Kw d.gi p.gd d.ci (λ_=>p.Kw) (I0 p.xs p.WO) (T0 p.xs) w.drew (Xa U) (Xa rfl) T J (Xa Z) (Xa<|by simp[fj];exact L) (Xa<|by simp[fj];exact L.symm) S (aA _) (Xa ⟨t.row,λi a=>(t.set i a).drew,t.inj,t.o⟩) (Xa ⟨u.row,λi a=>(u.set i a).drew,u.inj,u.o⟩) (Xa<|ED ab) (Xa Es) (Xa λi a=>by have:=h.igM i a;omega) (Xa λi l a k=>by have:=h.igM l k;have:=j.a6 i a;omega) (Xa q.lt) (Xa λaz W=>?_)).mono ?_
 .obtain⟨i,a,rfl⟩:=aY.1 W;have x:=bE.1 a;refine⟨?_,λad ht=>by have:=y.okf.tg i x ad ht;omega⟩;rw[Km x,bK];have:=KJ p.xs[i].te;omega
 rintro e r⟨rfl,n,P,aa,Y,V⟩;have g:U8 w r p.n d.gi:=⟨n.os,n.tape,n.output,n.size,n.block⟩;have f:∀b,b<p.M->r.heap[b]?=w.heap[b]?:=λb c=>g.block b oM (λi a e=>by have:=h.igM i a;omega);have hw:=h.low.size;have al:=j.a2;have ao:=j.a3;refine⟨rfl,⟨P,⟨⟨g.os.trans h.low.os,g.tape.trans h.low.tape,g.output.trans h.low.output,aJ hw g.size,λb c=>(f b oM).trans (h.low.block b c)⟩,aJ hz g.size,(Xc<|f _ oM).trans h.f0,(Xc<|f _ oM).trans h.r0,(Xc<|f _ oM).trans h.r1,λo=>by rw[bJ (a:=(Hk (p.w.heap.size+1) o)) (f (p.w.heap.size+1) oM)];exact h.rz o,(Xc<|f _ oM).trans h.l0,(Xc<|f _ oM).trans h.l1,⟨h.o.row.of_block<|f _ oM,λi a=>(h.o.set i a).of_block (f _<|oN (j.a4 i a)),h.o.inj,h.o.o⟩,Y,h.igM,(h.nxr.of_block<|f _ oM).congr λi a=>by rw[aU a],λi a=>?_,⟨E.nd,E.ge,λG R=>?_⟩,aa,d.Lf,λb c=>q.mem b<|q.sn b c,λb c af hx=>?_⟩⟩,λb h1 Q=>f b Q⟩
 .let⟨z,A,e,F⟩:=h.nxs i a;refine⟨z,A,e,λl k=>?_⟩;let⟨b,o,e2,c,D⟩:=F l k;exact⟨b,o,e2,⟨c.1.1,aX c.2 g.size⟩,(Xc<|g.block b c.2 c.1.2.1).trans D⟩
 .have B:=E.obj G R;refine(g.block G (aS.1 B).1 λi a e=>?_).trans B;let⟨o,v,I⟩:=(h.ins i a).obj;rw[<-e,B]at v;injection v with v;rw[<-v]at I;cases I
 rw[<-Bi];exact V b c af hx
def d9(a:Nat->Nat->Nat)(l:List Nat)(W:Nat->Nat):Nat->Nat:=l.foldl (λW t=>Hv W (a t) λ_=>0) W
theorem nZ{a:Nat->Nat->Nat}(h:XQ a):∀(l:List Nat){W:Nat->Nat},XA W->XA (d9 a l W)
 |[],_,hW=>hW
 |t::l,_,hW=>nZ h l<|oD hW (h t)
theorem rL{a:Nat->Nat->Nat}(h:XQ a)(x:Nat):∀(l:List Nat){W:Nat->Nat},XA W->(Xh (d9 a l W) x=true↔Xh W x=true\/∃t∈l,Xh (a t) x=true)
 |[],W,_=>by simp[d9]
 |t::l,W,hW=>by
  show Xh (d9 a l<|Hv W (a t) λ_=>0) x=true↔_;rw[rL h x l<|oD hW (h t),sS hW JW,Z3];simp only[Bool.not_false,Bool.and_true,dI,cH,exists_eq_or_imp,or_assoc]
theorem Ah(h:n<s.length)(W:Nat->Nat):d9 M (s.take<|n+1) W=Hv (d9 M (s.take n) W) (M s[n]) (λ_=>0):=by
 unfold d9;rw[bN h,dT];rfl
def Vq(d:List Xe)(c a:Nat->Nat->Nat)(b j:Nat):Nat->Nat->Nat:=λi=>if i<b then d9 c (X8 d i) (a i)else if i=b then d9 c ((X8 d i).take j) (a i)else a i
theorem sr(h:XQ M)(a:XQ N)(b j:Nat):XQ (Vq x M N b j):=λi=>by
 unfold Vq;split;·exact nZ h _<|a i
 split;·exact nZ h _<|a i
 exact a i
structure Kp(p:VD)(gi ci:Nat->Nat)(ds:List Nat)(WI:Nat->Nat->Nat)(W2:World)(gN:Nat)(wr:World)(b j:Nat):Prop where
 os:wr.os=W2.os
 tape:wr.tape=W2.tape
 output:wr.output=W2.output
 size:W2.heap.size<=wr.heap.size
 fr:∀q,q<W2.heap.size->(∀i,i<p.n->q≠p.go i)->wr.heap[q]?=W2.heap[q]?
 o:XK wr p.Go p.n p.Kw p.go (λ_=>p.Kw) (Vq p.xs WI p.WO b j)
theorem Kp.start{p:VD}{nx:Nat->Value}(h:MY p f F nx s w M)(k:Below w.heap.size w v):Kp p f F s M v n v 0 0 :=
 ⟨rfl,rfl,rfl,aA _,λ_ _ _=>rfl,(h.o.keep k).congr (λi _=>by unfold Vq;by_cases e:i=0<;>simp[e,d9])⟩
theorem Kp.row{p:VD}{wr:World}{b:Nat}(h:Kp p f F s M w n wr b m)(a:(X8 p.xs b).length<=m):Kp p f F s M w n wr (b+1) 0 :=
 ⟨h.os,h.tape,h.output,h.size,h.fr,h.o.congr (λi _=>by
  unfold Vq;by_cases e1:i<b;·rw[aU e1,aU oM]
  by_cases e2:i=b;·rw[aM e1,aU e2,aU oM,e2,aW a]
  rw[aM e1,aM e2,aM oM];by_cases e3:i=b+1;·rw[aU e3];simp[d9]
  rw[aM e3])⟩
theorem Kp.next{p:VD}{wr:World}{b:Nat}(h:Kp p f F s M w n wr b m)(d:b<p.n)(g:m<(X8 p.xs b).length)(k:wr.grownBy v (some<|p.go b))(j:Bf v (p.go b) p.Kw p.Kw (Hv (Vq p.xs M p.WO b m b) (M (X8 p.xs b)[m]) λ_=>0)):Kp p f F s M w n v b (m+1):=by
 refine⟨k.os.trans h.os,k.tape.trans h.tape,k.output.trans h.output,aJ h.size k.size,λq a c=>(k.block q (aX a h.size) λe=>c b d<|by injection e).trans (h.fr q a c),(h.o.wrote d k j).congr λi _=>?_⟩;by_cases e:i=b
 .subst e;simp only[Vq,Nat.lt_irrefl,fD,gG];rw[Ah g]
 unfold Vq;rw[aM e];by_cases e1:i<b;·rw[aU e1,aU e1]
 rw[aM e1,aM e1,aM e,aM e]
theorem Kp.res{p:VD}{nx:Nat->Value}{wr w':World}(h:Kp p f F s M v n wr p.n 0)(c:MY p f F nx s w M)(d:MG p)(e:Below w.heap.size w v)(A:p.n=p.xs.length)(r:XQ p.WO)(x:∀b,b<p.n->∀j,Xh (p.WO b) j=true↔(b,j)∈IE p.xs p.n)
 (g:∀q,q<wr.heap.size->q≠p.w.heap.size+1->q<p.M\/(∃i,i<p.n/\q=f i)->w'.heap[q]?=wr.heap[q]?) (B:w'.os=wr.os) (D:w'.tape=wr.tape) (C:w'.output=wr.output) (P:wr.heap.size<=w'.heap.size):MU p.w w' p.n p.Kw p.xs p.Gi p.Go f p.go F M (Vq p.xs M p.WO p.n 0):=by
 have S:=c.low.size;have I:=d.a1;have J:=d.a3;have K:=d.a5;have L:=d.a9;have N:=c.sz;have Q:=e.size;have R:=h.size;have t:=λq u l m=>(g q oM l<|bC u).trans ((h.fr q oM m).trans (e.block q oM));refine⟨⟨B.trans<|h.os.trans (e.os.trans c.low.os),D.trans<|h.tape.trans (e.tape.trans c.low.tape),C.trans<|h.output.trans (e.output.trans c.low.output),oM,λq hq=>(t q oM oM λi a k=>by have:=d.a4 i a;omega).trans (c.low.block q hq)⟩,⟨c.inn.row.of_block (t p.Gi oM oM λi a k=>(d.d4 i a).1 k.symm),λi a=>?_,c.inn.inj,c.inn.o⟩,⟨h.o.row.of_block<|g p.Go oM oM (bC oM),λi a=>(h.o.set i a).of_block (g _ (oN<|d.a4 i a) (oN<|d.a4 i a) (bC<|oN (d.a4 i a))),h.o.inj,h.o.o⟩,c.wi,sr c.wi r _ _,⟨oM,oM⟩,λi a=>⟨oN<|c.igM i a,oN<|d.a4 i a⟩,?_⟩
 .have O:=c.igM i a;have z:=(c.inn.set i a).lt;refine(c.inn.set i a).of_block ((g (f i) oM oM (aZ ⟨i,a,rfl⟩)).trans ((h.fr (f i) oM λE y k=>by have:=d.a4 E y;omega).trans (e.block _ z)))
 let⟨G,l,m⟩:=c.ord;refine⟨I0 p.xs p.WO,T0 p.xs,p.WO,G,λi a=>um a,λi a=>ue a,λb o j=>by rw[<-A];exact x b oM j,λb o=>l b oM,m,λb o H=>?_⟩;unfold Vq;rw[aU o];exact rL c.wi H _<|r b
theorem JZ{F:Fence}{n:Nat}{P:Program}{fn:Func}{tmps:Array Value}{R:Ending->World->Prop}{B:Nat}:∀(b:List Nat)(W:World),ZJ W B b->(∀a:World,a.os=W.os->a.tape=W.tape->a.output=W.output->W.heap.size<=a.heap.size->(∀k,k∉b->a.heap[k]?=W.heap[k]?)->∃v,(results fn tmps).run P a=.ok v a/\R (.returned v) a)->LeavesInM F n P fn tmps R (mks b) .returning W
 |[],W,_,h=>h W rfl rfl rfl (aA _) λ_ _=>rfl
 |D::b,W,hm,h=>by
  refine⟨sP,bC ⟨D,_,rfl,run_takeDeferred<|hm.obj D cI,?_⟩⟩;have c:=grownBy_putObj' W D<|.deferred none;refine JZ (B:=B) b _ ⟨(fL.1 hm.nd).2,λk d=>hm.ge k<|cN _ d,λk d=>?_⟩ λa g i j l m=>h a (g.trans c.os) (i.trans c.tape) (j.trans c.output) (aJ c.size l) λq hq=>?_;·exact(World.putObj_heap_other λf=>(fL.1 hm.nd).1 (by rw[<-f];exact d)).trans (hm.obj k<|cN _ d)
  have e:q≠D/\q∉b:=by simpa using hq
  exact(m q e.2).trans (World.putObj_heap_other e.1)
def LJ(a:List Xe)(b:Nat):List Int:=match a[b]? with
 |none=>[]
 |some x=>x.ps.map Ph.dst
def L5(a:List Xe)(b:Nat):List Int:=match a[b]? with
 |none=>[]
 |some x=>G2 x.te
def Tu(a:List Xe)(b:Nat):List Int:=match a[b]? with
 |none=>[]
 |some x=>Z2 x
def I8(a:List Xe)(b:Nat):List (List Int):=match a[b]? with
 |none=>[]
 |some x=>Jv x
theorem nN(a:List Xe)(b v:Nat):Yo a b v=Bs (LJ a b) (v:Int):=by
 unfold Yo LJ;cases a[b]?<;>rfl
structure Nb(W:World)(base:Nat)(xs:List Xe)(b:Nat)(a0:Option Addr)(n0:Nat)(a1:Option Addr)(n1:Nat)(a2:Option Addr)(n2:Nat)(a3:Option Addr)(n3:Nat)(a4:Option Addr)(n4:Nat)(a5:Option Addr)(n5:Nat)(c0 c1 c2 c3 c4 c5:Nat):Prop where
 t:n0=(X8 xs b).length/\Xf W 0 base a0 (Xi<|X8 xs b)
 p:n1=(LJ xs b).length/\Xf W 0 base a1 (LJ xs b)
 e:n2=(XP xs b).length/\Xf W 0 base a2 (XP xs b)
 r:n3=(I8 xs b).length/\TA W (λq=>q<base) a3 (I8 xs b)
 d:n4=(Tu xs b).length/\Xf W 0 base a4 (Tu xs b)
 u:n5=(L5 xs b).length/\Xf W 0 base a5 (L5 xs b)
 bare:∀v:Nat,Calls prog 52 #[.agg #[.slice a0 n0 c0,.slice a1 n1 c1,.slice a2 n2 c2,.slice a3 n3 c3,.slice a4 n4 c4,.slice a5 n5 c5],.int .i64 (v:Int)] W λe w'=>e=.returned (.int .i64 (Cp xs b v:Nat))/\Below W.heap.size W w'
theorem YQ.row(t:Jy n x){of:Nat}(W:YQ w (some ⟨m,of,none⟩) x)(k:Below w.heap.size w v){b:Nat}(a:b<x.length) :
 ∃f y g z h A i K j B l C c0 c1 c2 c3 c4 c5,m<w.heap.size/\v.cell? (Hk m<|of+b*6)=some (.slice f y c0)/\v.cell? (Hk m<|of+b*6+1)=some (.slice g z c1)/\v.cell? (Hk m<|of+b*6+2)=some (.slice h A c2)/\v.cell? (Hk m<|of+b*6+3)=some (.slice i K c3)/\v.cell? (Hk m<|of+b*6+4)=some (.slice j B c4)/\v.cell? (Hk m<|of+b*6+5)=some (.slice l C c5)/\y<=2/\z<=4000/\A<=8000000/\B<=4000/\C<=1/\Nb v w.heap.size x b f y g z h A i K j B l C c0 c1 c2 c3 c4 c5:=by
 let⟨al,ao,us,o,D,ad,c⟩:=W b a;injection o with o;injection o with e1 e2;subst e1 e2;have d:=λu r=>oB k (ad u r) D;have ac:=c.keep (λaj hq _=>k.block aj hq) k.size;let⟨f,c0,V,i0⟩:=c.e0;let⟨g,c1,e1,i1⟩:=c.e1;let⟨h,c2,e2,i2⟩:=c.e2;let⟨i,c3,e3,i3⟩:=c.e3;let⟨j,c4,e4,i4⟩:=c.e4;let⟨l,c5,e5,i5⟩:=c.e5;have L:=d 0 vZ;have M:=d 1 vZ;have N:=d 2 vZ;have O:=d 3 vZ;have P:=d 4 vZ;have Q:=d 5 vZ;rw[V]at L;rw[e1]at M;rw[e2]at N;rw[e3]at O;rw[e4]at P;rw[e5]at Q;have s:=t.lens x[b] (aH a);have J:x[b].te.tg=Xi (X8 x b):=by rw[WM t.okf a,VS a]
 have F:(XP x b).length<=8000000:=by
  unfold XP;rw[aC a];have h1:=V8 t ((b:Nat):Int) x[b].te.tg;have h2:=KJ x[b].te;simp only;omega
 have Y:(G2 x[b].te).length<=1:=by unfold G2;split<;>simp
 have G:LJ x b=x[b].ps.map Ph.dst:=by unfold LJ;rw[aC a]
 have I:L5 x b=G2 x[b].te:=by unfold L5;rw[aC a]
 have E:Tu x b=Z2 x[b]:=by unfold Tu;rw[aC a]
 have H:I8 x b=Jv x[b]:=by unfold I8;rw[aC a]
 have Z:∀e:Nat,Cp x b e=Hd x[b] (XP x b) (e:Int):=λe=>by unfold Cp;rw[aC a]
 refine⟨f,_,g,_,h,_,i,_,j,_,l,_,c0,c1,c2,c3,c4,c5,D,L,M,N,O,P,Q,KJ _,by rw[bK];exact s.2,F,by unfold Z2;rw[bK];exact s.1,Y,⟨⟨by rw[J];simp[Xi],?_⟩,⟨by rw[G],?_⟩,⟨rfl,i2.at_.keep k⟩,⟨by rw[H],?_⟩,⟨by rw[E],?_⟩,⟨by rw[I],?_⟩,λe=>?_⟩⟩;·rw[<-J];exact i0.at_.keep k
 .rw[G];exact i1.at_.keep k
 .rw[H]
  intro af hi;let⟨S,o',U,p,R,T,aa,X⟩:=i3 af hi;exact⟨S,o',U,⟨p.2,aX p.2 k.size⟩,R,T,oB k aa p.2,λu r=>by
   let⟨b2,o2,e2,q,ab⟩:=X u r;exact⟨b2,o2,e2,⟨q.2,aX q.2 k.size⟩,oB k ab q.2⟩⟩
 .rw[E];exact i4.at_.keep k
 .rw[I];exact i5.at_.keep k
 rw[Z];exact rd x[b] (XP x b) us (e:Int) v (Xa ac) (Xa s.1) (Xa F) _ _ _ _ _ _ e2 e3 e4 e5
def Un(a:Nat->Bool)(n:Nat):Nat:=(List.range n).countP a
theorem sw(a:Nat->Bool)(n:Nat):Un a n<=n:=aJ mW sP
theorem qk(a:Nat->Bool)(n:Nat):Un a (n+1)=Un a n+(if a n then 1 else 0):=by
 unfold Un;rw[dN,lN];simp[List.countP_cons]
theorem pK{a lv':Nat->Bool}(h:∀b,b<n->a b=lv' b):Un a n=Un lv' n:=by
 unfold Un;exact kK λx c=>by rw[h x<|bE.1 c]
theorem qM{a:Nat->Bool}{b:Nat}(c:a b=false):∀n,b<n->Un (λz=>if z=b then true else a z) n=Un a n+1
 |0,h=>absurd h oM
 |n+1,h=>by
  rw[qk,qk];by_cases e:b=n
  .subst e;rw[pK (lv':=a) λz d=>by simp[show z≠b by omega]];simp[c]
  rw[qM c n oM];have:n≠b:=oM;simp only[this,fD];omega
theorem Bg{a:Nat->Bool}{b:Nat}(c:b<n)(h:a b=true):0<Un a n:=by
 unfold Un;exact nC.2 ⟨b,bE.2 c,h⟩
structure LI(xs:List Xe)(v n:Nat)(lv0 lv:Nat->Bool)(b:Nat)(gr:Bool):Prop where
 snd:∀z,z<n->lv z=true->Wh xs v z
 here:∀z,z<n->Cp xs z v=1->lv z=true
 no:gr=false->(∀z,z<n->lv z=lv0 z)/\∀z,z<b->Cp xs z v=0->∀t∈X8 xs z,lv t=true->Yo xs t v=false->lv z=true
 yes:gr=true->Un lv0 n<Un lv n/\0<Un lv0 n
theorem LI.start{a:Nat->Bool}(b:∀z,z<m->a z=true->Wh x n z)(c:∀z,z<m->Cp x z n=1->a z=true):LI x n m a a 0 false :=
 ⟨b,c,λ_=>⟨λ_ _=>rfl,λz d=>absurd d oM⟩,λh=>by cases h⟩
theorem LI.set{b:Nat}{i c:Nat->Bool}(h:LI x n m i c b r)(s:m=x.length)(o:b<m)(q:k∈X8 x b)(g:k<m)(j:Cp x b n=0)(p:c b=false)(f:c k=true)(l:Yo x k n=false):LI x n m i (λz=>if z=b then true else c z) b true:=by
 refine⟨λz d a=>?_,λz d a=>?_,λe=>(by cases e),λ_=>?_⟩
 .by_cases e:z=b
  .subst e;exact Wh.step oM j q l<|h.snd k g f
  simp only[e,fD]at a;exact h.snd z d a
 .by_cases e:z=b;·simp[e]
  simp only[e,fD];exact h.here z d a
 rw[qM p m o];cases hg:r with
 |false=>
  have e:=pK (h.no hg).1;rw[e];refine⟨oM,?_⟩;rw[<-e];exact Bg g f
 |true=>
  have:=h.yes hg;omega
theorem LI.next{b:Nat}{c a:Nat->Bool}(h:LI x n m c a b r)(d:r=false->Cp x b n=0->∀t∈X8 x b,a t=true->Yo x t n=false->a b=true):LI x n m c a (b+1) r :=
 ⟨h.snd,h.here,λe=>⟨(h.no e).1,λz f=>by
  by_cases e2:z=b;·subst e2;exact d e
  exact(h.no e).2 z oM⟩,h.yes⟩
theorem LI.done{e a:Nat->Bool}(h:LI x n m e a m false)(d:m=x.length):∀b,b<m->(a b=true↔Wh x n b):=by
 subst d;exact λb c=>Ac h.snd h.here (h.no rfl).2 c
section
structure Ij(w wr:World)(n:Nat)(lv op:Nat->Bool):Prop where
 low:Below w.heap.size w wr
 r1:wr.rowIs w.heap.size 4 n λb=>.bool (lv b)
 r2:wr.rowIs (w.heap.size+1) 4 n λb=>.bool (op b)
 sz:w.heap.size+2<=wr.heap.size
section
variable {w wr wr': World} {n: Nat} {lv op: Nat -> Bool}
theorem Ij.below(h:Ij w wr n lv op)(k:Below wr.heap.size wr wr'):Ij w wr' n lv op :=
 ⟨Xg h.low k,h.r1.of_block<|k.block _ h.r1.lt,h.r2.of_block<|k.block _ h.r2.lt,aJ h.sz k.size⟩
theorem Ij.congr{a b:Nat->Bool}(h:Ij w wr n lv op)(e1:∀z,z<n->lv z=a z)(e2:∀z,z<n->op z=b z):Ij w wr n a b:=⟨h.low,UC (C:=Value.bool) h.r1 e1,UC (C:=Value.bool) h.r2 e2,h.sz⟩
theorem Ij.set1(h:Ij w wr n lv op)(b:Nat)(q:Bool):Ij w (wr.setCell ⟨w.heap.size,b,none⟩ (.bool q)) n (λz=>if z=b then q else lv z) op :=
 ⟨h.low.setCell (aA _) _,TS (C:=Value.bool) h.r1 b q,h.r2.setOther (by show w.heap.size+1≠w.heap.size;omega) _,by rw[Xd];exact h.sz⟩
theorem Ij.set2(h:Ij w wr n lv op)(b:Nat)(q:Bool):Ij w (wr.setCell ⟨w.heap.size+1,b,none⟩ (.bool q)) n lv (λz=>if z=b then q else op z) :=
 ⟨h.low.setCell (by show w.heap.size<=w.heap.size+1;omega) _,h.r1.setOther (by show w.heap.size≠w.heap.size+1;omega) _,TS (C:=Value.bool) h.r2 b q,by rw[Xd];exact h.sz⟩
end
def MZ(a:List Xe)(v n k:Nat)(lv:Nat->Bool):Prop:=(∀z,z<n->lv z=true->Wh a v z)/\(∀z,z<n->Cp a z v=1->lv z=true)/\(n<k+Un lv n\/(k=n/\Un lv n=0))
def ML(w wr:World)(d:List Xe)(v n:Nat)(lv op:Nat->Bool)(c:Value)(b:Nat):Prop:=∃(g:Bool)(a:Nat->Bool),c=.bool g/\Ij w wr n a op/\LI d v n lv a b g
def MM(w wr:World)(c:List Xe)(v n:Nat)(lv op:Nat->Bool)(d:Value)(b j:Nat):Prop:=∃(g:Bool)(a:Nat->Bool),d=.bool g/\Ij w wr n a op/\LI c v n lv a b g/\(a b=false->∀r,r<j->∀t,(X8 c b)[r]?=some t->¬(a t=true/\Yo c t v=false))
theorem yC(bd v n c bf of:Nat)(a:List Xe)(w:World)(hF:Hs (YQ w (some ⟨bf,of,none⟩) a))(s:Hs (n=a.length))(B:Hs (Jy bd a)) :
 Calls prog 53 #[Hm bf of n c,Hp v] w λf w'=>∃g,f=.returned (Hl g n n)/\Below w.heap.size w w'/\w.heap.size<=g/\∃lv:Nat->Bool,w'.rowIs g 4 n (λb=>.bool (lv b))/\∀b,b<n->(lv b=true↔Wh a v b):=by
 have hn:n<=1000:=oP s.o B.okf.n2;have bx:0<n:=oP s.o B.okf.n1;have bn:=fM (P:=prog) 97 4 (.bool false) 1 underlying97 No rfl .i64 .i64 n oM oM;have af:=Xa<|dG w (.bool false) n 4;have aj:=Xa<|dG (w.alloc<|.cells (madeCells #[.bool false] n) 4) (.bool false) n 4
 go_in
 go_wp2_with fail
 have al:Hs (Ij w ((w.alloc<|.cells (madeCells #[.bool false] n) 4).alloc (.cells (madeCells #[.bool false] n) 4)) n (λz=>decide (z<0)&&decide (Cp a z v=1)) λz=>decide (z<0)&&decide (Cp a z v=0)):=Xa ⟨Xb (Xb (Below.refl _ _) _) _,UC (C:=Value.bool) (af.alloc _) λz _=>sP,UC (C:=Value.bool) (by have:=aj.o;rwa[aO]at this) λz _=>sP,sP⟩;clear af aj bn;generalize (w.alloc _).alloc _=w2 at*
 go_loopw [7] (λW wr=>∃b:Nat,b<=n/\W=Hp b/\Hs (Ij w wr n (λz=>decide (z<b)&&decide (Cp a z v=1)) λz=>decide (z<b)&&decide (Cp a z v=0))) λW _=>n-(intOf W).toNat
 case atStart=>exact⟨0,aN _,rfl,al⟩
 clear al;obtain⟨b,hb,rfl,d⟩:=hrel;by_cases A:b<n
 .let⟨a0,O,a1,n1,a2,n2,a3,n3,a4,n4,a5,n5,c0,c1,c2,c3,c4,c5,aq,x0,x1,x2,x3,x4,x5,_,_,_,_,_,J⟩:=YQ.row B hF d.low (show b<a.length by have:=s.o;omega);have ab:=Xa<|J.bare v;clear J;go_wp2_with fail
  refine ab.mono ?_;rintro f w3⟨rfl,ap⟩;have E:=Xa<|d.below ap;have Y:=E.r1.cell A;have Z:=E.r2.cell A;have z1:=E.r1.frozen b;have z2:=E.r2.frozen b;clear ap ab x0 x1 x2 x3 x4 x5;let⟨q1,bo⟩:∃aa:Bool,(((Cp a b v:Nat):Int)==1)=aa:=⟨_,rfl⟩;let⟨q2,bp⟩:∃aa:Bool,(((Cp a b v:Nat):Int)==0)=aa:=⟨_,rfl⟩;have HQ:Hs (q1=decide (Cp a b v=1)/\q2=decide (Cp a b v=0)):=Xa (by
   rw[<-bo,<-bp];constructor;·rw[eQ,iA,bD];omega
   rw[eQ,iA,bD];omega)
  have b0:∀az,(w3.setCell (Hk w.heap.size b) az).cell? (Hk (w.heap.size+1) b)=w3.cell? (Hk (w.heap.size+1) b):=λaz=>bZ (Below.heap_setCell _ _ _ _<|by show w.heap.size+1≠w.heap.size;omega);go_wp2
  exact⟨⟨b+1,oM,gM,Xa (((E.set1 b q1).set2 b q2).congr (λz e=>by
   by_cases f:z=b;·subst f;simp[HQ.1]
   .have:z<b+1↔z<b:=oM
    simp[f,this]) (λz e=>by
   by_cases f:z=b;·subst f;simp[HQ.2]
   have:z<b+1↔z<b:=oM
   simp[f,this]))⟩,by simp[intOf];omega⟩
 have I:n=b:=oM;have D:Hs (Ij w wr n (λz=>decide (Cp a z v=1)) λz=>decide (Cp a z v=0)):=Xa (d.congr (λz e=>by simp[<-I,e]) λz e=>by simp[<-I,e]);subst I;clear d;have x:Hs (MZ a v n n λz=>decide (Cp a z v=1)):=Xa ⟨λz e h=>Wh.here (oN s.o) (fV h),λz _ h=>eB h,oM⟩;go_wp2_with fail
 generalize (λz=>decide (Cp a z v=1))=br at*;generalize o:(λz=>decide (Cp a z v=0))=k at*;have ac:Hs (∀z,k z=decide (Cp a z v=0)):=Xa (λz=>by rw[<-o]);clear o;generalize wr=w5 at*
 go_loopw [9] (λr wr=>∃(y:Nat)(lv:Nat->Bool),y<=n/\r=Hp y/\Hs (Ij w wr n lv k)/\Hs (MZ a v n y lv)) λr _=>(intOf r).toNat
 case atStart=>exact⟨n,br,aA _,rfl,D,x⟩
 clear D x;obtain⟨y,lv,hk,rfl,D,x⟩:=hrel;have bv:0<y:=by
  have F:=x.2.2;have G:=sw lv n;omega
 have u:Hs (ML w wr a v n lv k (.bool false) 0):=Xa ⟨false,lv,rfl,D,LI.start x.1 x.2.1⟩;clear D;go_wp2_with fail
 generalize wr=w6 at*
 go_loopw [10,11] (λT S wr=>∃b:Nat,b<=n/\S=Hp b/\Hs (ML w wr a v n lv k T b)) λ_ S _=>n-(intOf S).toNat
 case atStart=>exact⟨0,aN _,rfl,u⟩
 clear u;obtain⟨b,hb,rfl,u⟩:=hrel;by_cases A:b<n
 .have ar:b<a.length:=oN s.o
  let⟨a0,O,a1,n1,a2,n2,a3,n3,a4,n4,a5,n5,c0,c1,c2,c3,c4,c5,aq,y0,_,_,_,_,_,bz,_,_,_,_,J⟩:=YQ.row B hF (Below.refl w.heap.size w) ar;have R:=Xa J.t;clear J;have C:Hs (MM w wr a v n lv k u10 b 0):=Xa (by
   let⟨g,i,f,F,G⟩:=u.o;exact⟨g,i,f,F,G,λ_ r K=>absurd K oM⟩)
  clear u;go_wp2_with fail
  generalize wr=w7 at*
  go_loopw [10,12] (λT X wr=>∃j:Nat,j<=O/\X=Hp j/\Hs (MM w wr a v n lv k T b j)) λ_ X _=>O-(intOf X).toNat
  case atStart=>exact⟨0,aN _,rfl,C⟩
  clear C;obtain⟨j,hj,rfl,C⟩:=hrel;obtain⟨g,i,rfl,p,H,hJ⟩:=C.o;have d:=Xa p;have m:=Xa H;have Q:=Xa hJ;have k0:=oB p.low y0 aq;have Y:=p.r1.cell A;have Z:=p.r2.cell A;clear C p H hJ;by_cases o:Cp a b v=0
  .have q:k b=true:=by rw[ac.o];exact eB o
   rw[q]at Z;cases hlb:i b with
   |true=>
    rw[hlb]at Y;have l:Hs (ML w wr a v n lv k (.bool g) (b+1)):=Xa ⟨g,i,rfl,d,m.next λ_ _ _ _ _ _=>hlb⟩;clear hlb q;go_wp2;exact⟨⟨b+1,oM,gM,l⟩,by simp[intOf];omega⟩
   |false=>
    rw[hlb]at Y;by_cases bm:j<O
    .have V:j<(X8 a b).length:=by rw[<-R.1];exact bm
     have bl:j<(Xi<|X8 a b).length:=by simp[Xi];exact V
     obtain⟨bt,ot,rfl,⟨_,bi⟩,L⟩:=R.2 j bl;have ao:(Xi<|X8 a b)[j]=(((X8 a b)[j]:Nat):Int):=by simp[Xi]
     rw[ao]at L;have N:=aH V;have ay:=B.okf.tg _ ar _ N;have P:=Xa<|aC V;let⟨t,M⟩:∃t,t=(X8 a b)[j]:=⟨_,rfl⟩;rw[<-M]at L N ay P;have bc:=Xa N;have ax:t<n:=oN s.o;have kt:=oB d.low L bi;have kl:=d.r1.cell ax;let⟨d0,m0,d1,m1,d2,m2,d3,m3,d4,m4,d5,m5,f0,f1,f2,f3,f4,f5,_,_,t1,_,_,_,_,_,bw,_,_,_,U⟩:=YQ.row B hF d.low ay;have a6:=Xa<|YF d1 m1 f1 (v:Int) (LJ a t) 0 w.heap.size wr (Xa U.p.2) (Xa U.p.1) oM;have ad:=Xa<|nN a t v;clear L N M ao U;cases hlt':i t with
     |false=>
      rw[hlt']at kl;have l:Hs (MM w wr a v n lv k (.bool g) b (j+1)):=Xa ⟨g,i,rfl,d,m,λh r K z e=>by
       by_cases f:r=j
       .subst f;rw[P.o]at e;injection e with e;subst e;rw[hlt'];exact λh=>by cases h.1
       exact Q h r oM z e⟩
      clear hlt' hlb q;go_wp2;exact⟨⟨j+1,oM,gM,l⟩,by simp[intOf];omega⟩
     |true=>
      rw[hlt']at kl;have a8:=Xa hlt';have a7:=Xa hlb;have a9:=Xa o;have z1:=d.r1.frozen b;clear hlt' hlb q o;go_wp2_with fail
      refine a6.mono ?_;rintro f w8⟨rfl,bq⟩;subst bq;cases hph:Bs (LJ a t) (v:Int)with
      |true=>
       have l:Hs (MM w w8 a v n lv k (.bool g) b (j+1)):=Xa ⟨g,i,rfl,d,m,λh r K z e=>by
        by_cases f:r=j
        .subst f;rw[P.o]at e;injection e with e;subst e;rw[ad.o,hph];exact λh=>by cases h.2
        exact Q h r oM z e⟩
       clear hph;go_wp2_with fail
       refine⟨?_,by simp[intOf];omega⟩
       first
        |exact⟨j+1,oM,gM,l⟩
        |((repeat apply gP);refine⟨?_,rfl⟩;exact⟨j+1,oM,gM,l⟩)
      |false=>
       have l:Hs (MM w (w8.setCell (Hk w.heap.size b) (.bool true)) a v n lv k (.bool true) b (j+1)):=Xa ⟨true,_,rfl,d.set1 b true,m.set s A bc ax a9 a7 a8 (by rw[ad.o];exact hph),λh=>by simp at h⟩;clear hph;go_wp2_with fail
       refine⟨?_,by simp[intOf];omega⟩
       first
        |exact⟨j+1,oM,gM,l⟩
        |((repeat apply gP);refine⟨?_,rfl⟩;exact⟨j+1,oM,gM,l⟩)
    have l:Hs (ML w wr a v n lv k (.bool g) (b+1)):=Xa ⟨g,i,rfl,d,m.next (λ_ _ t M F G=>by
     let⟨r,K,f⟩:=bR M;exact absurd ⟨F,G⟩ (Q hlb r (oN R.1) t (by rw[aC K,f])))⟩
    clear hlb q;go_wp2;exact⟨⟨b+1,oM,gM,l⟩,by simp[intOf];omega⟩
  have q:k b=false:=by rw[ac.o];exact dJ o
  rw[q]at Z;have l:Hs (ML w wr a v n lv k (.bool g) (b+1)):=Xa ⟨g,i,rfl,d,m.next λ_ h=>absurd h o⟩;clear q o;go_wp2;exact⟨⟨b+1,oM,gM,l⟩,by simp[intOf];omega⟩
 have I:b=n:=oM;subst I;obtain⟨g,i,rfl,p,H⟩:=u.o;have d:=Xa p;have m:=Xa H;clear u p H;cases g with
 |true=>
  have ba:Hs (MZ a v b (y-1) i):=Xa ⟨m.snd,m.here,by
   have F:=m.yes rfl;have G:=x.2.2;have h3:=sw i b;omega⟩
  go_wp2;exact⟨⟨y-1,i,oM,gM,d,ba⟩,by simp[intOf];omega⟩
 |false=>
  go_wp2;go_ret;exact⟨w.heap.size,rfl,d.low,aA _,i,d.r1,m.done s⟩
end
def NZ(c:List Xe)(v b:Nat)(w:World)(e:Ending)(a:World):Prop:=∃s:Bool,e=.returned (.bool s)/\(s=true↔UV c v b)/\Below w.heap.size w a
theorem xj(V v n c J of L b:Nat)(a:List Xe)(B:Nat->Bool)(w:World)(hF:Hs (YQ w (some ⟨J,of,none⟩) a))(y:Hs (n=a.length))(l:Hs (Jy V a))(hb:b<n)(f:Hs (w.rowIs L 4 n λz=>.bool (B z)))(ac:Hs (∀z,z<n->(B z=true↔Wh a v z))) :
 Calls prog 54 #[Hm J of n c,Hl L n n,Hp v,Hp b] w λe w'=>NZ a v b w e w':=by
 have hn:n<=1000:=oP y.o l.okf.n2;have M:b<a.length:=oN y.o;let⟨a0,C,a1,n1,W,n2,a3,n3,a4,n4,a5,n5,c0,c1,c2,c3,c4,c5,af,x0,_,x2,_,_,_,ao,_,ap,_,_,k⟩:=YQ.row l hF (Below.refl w.heap.size w) M;have q:=Xa k.t;have g:=Xa<|mq W n2 c2 (v:Int) (XP a b) 0 w.heap.size w (Xa k.e.2) (Xa k.e.1) oM;clear k;cases hed:Bs (XP a b) (v:Int)with
 |true=>
  have p:Hs (UV a v b):=Xa<|bC (XD.1 hed);rw[hed]at g;clear hed
  go_in
  go_wp2_with fail
  refine g.mono ?_;rintro e w3⟨rfl,x⟩;have e3:=x.symm;subst e3;go_wp2;go_ret;exact⟨true,rfl,⟨λ_=>p,λ_=>rfl⟩,Below.refl _ _⟩
 |false=>
  have T:Hs (¬(v:Int)∈XP a b):=Xa (λh=>by rw[XD.2 h]at hed;cases hed);rw[hed]at g;clear hed
  go_in
  go_wp2_with fail
  refine g.mono ?_;rintro e w3⟨rfl,x⟩;have e3:=x.symm;subst e3;clear g;go_wp2
  go_loopw [9] (λA wr=>∃j:Nat,j<=C/\A=Hp j/\Hs (dy wr w)/\Hs (∀r,r<j->∀t,(X8 a b)[r]?=some t->¬LM a v t)) λA _=>C-(intOf A).toNat
  case atStart=>exact⟨0,aN _,rfl,Xa rfl,Xa λr f=>absurd f oM⟩
  obtain⟨j,hj,rfl,I,G⟩:=hrel;have Z:=Eq.symm I;clear I;subst Z;by_cases ab:j<C
  .have u:j<(X8 a b).length:=by rw[<-q.1];exact ab
   have aa:j<(Xi<|X8 a b).length:=by simp[Xi];exact u
   obtain⟨bt,ot,rfl,⟨_,aj⟩,N⟩:=q.2 j aa;have K:(Xi<|X8 a b)[j]=(((X8 a b)[j]:Nat):Int):=by simp[Xi]
   rw[K]at N;have o:=aH u;have P:=l.okf.tg _ M _ o;have D:=Xa<|aC u;let⟨t,m⟩:∃t,t=(X8 a b)[j]:=⟨_,rfl⟩;rw[<-m]at N o P D;have U:=Xa o;have O:t<n:=oN y.o
   have Q:=f.cell O;have E:=Xa<|ac.o t O;let⟨d0,m0,X,m1,d2,m2,d3,m3,d4,m4,d5,m5,f0,f1,f2,f3,f4,f5,_,_,t1,_,_,_,_,_,al,_,_,_,s⟩:=YQ.row l hF (Below.refl w.heap.size w) P;have R:=Xa<|YF X m1 f1 (v:Int) (LJ a t) 0 w.heap.size w (Xa s.p.2) (Xa s.p.1) oM;have H:=Xa<|nN a t v;clear o m K s;have F:Hs (¬LM a v t->∀r,r<j+1->∀t,(X8 a b)[r]?=some t->¬LM a v t):=Xa (λh r f z i=>by
    by_cases e:r=j
    .subst e;rw[D.o]at i;injection i with i;subst i;exact h
    exact G r oM z i)
   cases hlt':B t with
   |false=>
    rw[hlt']at Q;have d:=Xa (F.o λh=>by rw[E.2 h.2]at hlt';cases hlt');clear hlt';go_wp2;exact⟨⟨j+1,oM,gM,Xa rfl,d⟩,by simp[intOf];omega⟩
   |true=>
    rw[hlt']at Q;have S:=Xa<|E.1 hlt';clear hlt';go_wp2_with fail
    refine R.mono ?_;rintro e w8⟨rfl,ad⟩;have Y:=ad.symm;subst Y;cases hph:Bs (LJ a t) (v:Int)with
    |true=>
     have d:Hs (∀r,r<j+1->∀t,(X8 a b)[r]?=some t->¬LM a v t):=Xa (F.o λh=>by have:=h.1;rw[H.o,hph]at this;cases this);clear hph;go_wp2_with fail
     refine⟨?_,by simp[intOf];omega⟩
     first
      |exact⟨j+1,oM,gM,Xa rfl,d⟩
      |((repeat apply gP);refine⟨?_,rfl⟩;exact⟨j+1,oM,gM,Xa rfl,d⟩)
    |false=>
     have p:Hs (UV a v b):=Xa (aZ ⟨t,U,by rw[H.o];exact hph,S⟩);clear hph;go_wp2;go_ret;exact⟨true,rfl,⟨λ_=>p,λ_=>rfl⟩,Below.refl _ _⟩
  have d:Hs (¬UV a v b):=Xa (by
   rintro(h|⟨t,m,h⟩);·exact T h
   let⟨r,f,e⟩:=bR m
   exact G r (oN q.1) t (by rw[aC f,e]) h)
  go_wp2;go_ret;exact⟨false,rfl,⟨λh=>(by cases h),λh=>absurd h d⟩,Below.refl _ _⟩
section
structure Is(w:World)(base ns:Nat)(G m:Nat->Nat)(P:Nat->Nat->List Int)(U:Nat->Nat->Value):Prop where
 lt:∀s,s<ns->G s<base
 ne:∀s s',s<ns->s' < ns->s≠s'->G s≠G s'
 row:∀s,s<ns->w.rowIs (G s) 69 (m s) (U s)
 own:∀s i,s<ns->i<m s->w.ownsRow base 2 1 (U s i) (P s i).length ((P s i).map (Value.int .i64))
 dj:∀s i s' j,s<ns->s' < ns->i<m s->j<m s'->(s,i)≠(s',j)->(U s i).ownBlock=none\/(U s i).ownBlock≠(U s' j).ownBlock
section
variable {w w' w1: World} {base ns: Nat} {G m: Nat -> Nat} {P P': Nat -> Nat -> List Int} {U: Nat -> Nat -> Value}
theorem Is.below(h:Is w base ns G m P U)(k:Below w.heap.size w w'):Is w' base ns G m P U:=by
 refine⟨h.lt,h.ne,λs a=>(h.row s a).of_block (k.block _ (h.row s a).lt),λs i a d=>?_,h.dj⟩;refine(h.own s i a d).kept (row:=none) ⟨k.os,k.tape,k.output,k.size,λb c _=>k.block b c⟩ ?_;cases (U s i).ownBlock<;>simp
theorem Is.congr(h:Is w base ns G m P U)(e:∀s i,s<ns->i<m s->P s i=P' s i):Is w base ns G m P' U :=
 ⟨h.lt,h.ne,h.row,λs i b a=>by rw[<-e s i b a];exact h.own s i b a,h.dj⟩
theorem Is.step(h:Is w base ns G m P U){s t:Nat}(f:s<ns)(g:t<m s)(y:Int)(c:Value)(u:w.grownBy w1 (U s t).ownBlock)
 (z:w1.ownsRow base 2 1 c ((P s t).length+1) ((P s t).map (Value.int .i64)++[.int .i64 y])) (r:c.ownBlock=(U s t).ownBlock\/c.ownBlock=some w.heap.size) :
 Is (w1.setCell ⟨G s,t,none⟩ c) base ns G m (λa i=>if (a,i)=(s,t)then P s t++[y]else P a i) (λa i=>if (a,i)=(s,t)then c else U a i):=by
 have x:=λa b=>(h.row a b).of_block (u.block _ (h.row a b).lt λe=>by have:=((h.own s t f g).lt _ e.symm).1;have:=h.lt a b;omega)
 have fresh:∀a q,a < ns->q<m a->(U a q).ownBlock=none\/(U a q).ownBlock≠some w.heap.size:=λa q b hq=>by
  by_cases e:(U a q).ownBlock=some w.heap.size;·have:=((h.own a q b hq).lt _ e).2;omega
  exact aZ e
 refine⟨h.lt,h.ne,λa b=>?_,λa i b d=>?_,λs1 i s2 j l n d p v=>?_⟩
 .by_cases e:a=s
  .subst e;exact((x a b).set t c).congr (λi _=>by by_cases e2:i=t<;>simp[e2])
  exact((x a b).setOther (a:=(Hk (G s) t)) (λe2=>h.ne a s b f e e2) c).congr λi _=>by simp[e]
 .refine ownsRow_setCell_below ?_ (h.lt s f) _;by_cases e:(a,i)=(s,t)
  .simp only[e,gG,aQ,bA,bO,bG,eH,fZ];exact z
  simp only[e,fD];exact(h.own a i b d).kept u (h.dj a i s t b f d g e)
 by_cases e1:(s1,i)=(s,t)
 .have e2:¬(s2,j)=(s,t):=λe=>v<|e1.trans e.symm;simp only[e1,gG,e2,fD];rcases r with q|q
  .rw[q];exact h.dj s t s2 j f n g p λe=>e2 e.symm
  right
  rw[q];intro o;rcases fresh s2 j n p with k|k;·rw[k]at o;cases o
  exact k o.symm
 simp only[e1,fD];by_cases e2:(s2,j)=(s,t)
 .simp only[e2,gG];rcases r with q|q;·rw[q];exact h.dj s1 i s t l f d g e1
  rw[q];exact fresh s1 i l d
 simp only[e2,fD];exact h.dj s1 i s2 j l n d p v
theorem Is.other(h:Is w base ns G m P U){b T q:Nat}{f:Nat->Value}(l:w.rowIs b T q f)(k:T≠2){s i:Nat}(o:s<ns)(n:i<m s):(U s i).ownBlock≠some b:=λe=>by
 let⟨c,d,_⟩:=l;rcases(h.own s i o n).2 with⟨e1,_⟩|⟨g,cap,cur,e1,_,a,_⟩;·rw[e1]at e;cases e
 rw[e1]at e;injection e with e;have e:g=b:=e;subst e;rw[show w.heap[g]?=_ from d]at a;injection a with a;injection a with _ j;exact k j
theorem Is.ints(h:Is w base ns G m P U){s:Nat}(a:s<ns){L:Nat}(e:L<=G s):XR w L w.heap.size (some ⟨G s,0,none⟩) ((List.range<|m s).map (P s)):=λi b=>by
 simp only[bK,gI]at b;let⟨d,c,f,ha⟩:=Xk<|h.own s i a b;refine⟨G s,0,rfl,⟨e,(h.row s a).lt⟩,d,c,?_,?_⟩
 .simp only[cM,dW,aV];rw[(h.row s a).cell b,f]
 simp only[cM,dW];exact ha.mono (oN<|h.lt s a) (aA _)
end
structure Ie(w3 wr:World)(ns:Nat)(G m:Nat->Nat)(P:Nat->Nat->List Int):Prop where
 os:wr.os=w3.os
 tape:wr.tape=w3.tape
 output:wr.output=w3.output
 size:w3.heap.size<=wr.heap.size
 fr:∀q,q<w3.heap.size->(∀s,s<ns->q≠G s)->wr.heap[q]?=w3.heap[q]?
 db:∃U,Is wr w3.heap.size ns G m P U
section
variable {w3 wr wr' w8: World} {ns: Nat} {G m: Nat -> Nat} {P P': Nat -> Nat -> List Int}
theorem Ie.below(h:Ie w3 wr ns G m P)(k:Below wr.heap.size wr wr'):Ie w3 wr' ns G m P:=by
 let⟨U,c⟩:=h.db;have:=h.size;exact⟨k.os.trans h.os,k.tape.trans h.tape,k.output.trans h.output,aJ h.size k.size,λq a b=>(k.block q oM).trans (h.fr q a b),U,c.below k⟩
theorem Ie.congr(h:Ie w3 wr ns G m P)(e:∀s i,s<ns->i<m s->P s i=P' s i):Ie w3 wr ns G m P':=by
 let⟨U,a⟩:=h.db;exact⟨h.os,h.tape,h.output,h.size,h.fr,U,a.congr e⟩
theorem Ie.cell(h:Ie w3 wr ns G m P){b o:Nat}{v:Value}(c:∀s,s<ns->b≠G s)(a:w3.cell? (Hk b o)=some v):wr.cell? (Hk b o)=some v:=(Xc<|h.fr b (aI w3 _ a) c).trans a
theorem Ie.push{U:Nat->Nat->Value}{s t:Nat}{j:Obj}{x:Int}{b:Value}(h:Ie w3 wr ns G m P)(e:Is wr w3.heap.size ns G m P U)(d:s<ns)(n:t<m s)(c:(wr.drew.alloc j).grownBy w8 (U s t).ownBlock)(D:w8.ownsRow w3.heap.size 2 1 b ((P s t).length+1) ((P s t).map (Value.int .i64)++[.int .i64 x]))(C:b.ownBlock=(U s t).ownBlock\/b.ownBlock=some (wr.heap.size+1)) :
 Ie w3 (w8.setCell ⟨G s,t,none⟩ b) ns G m (λy v=>if (y,v)=(s,t)then P s t++[x]else P y v)/\w8.cell? ⟨G s,t,none⟩=some (U s t)/\w8.frozen? ⟨G s,t,none⟩=false/\(∀q,q<wr.heap.size->q≠G s->(U s t).ownBlock≠some q->w8.heap[q]?=wr.heap[q]?/\(w8.setCell ⟨G s,t,none⟩ b).heap[q]?=wr.heap[q]?)/\wr.heap.size<=(w8.setCell ⟨G s,t,none⟩ b).heap.size:=by
 have H:=h.size;have F:=c.size;have B:(wr.drew.alloc j).heap.size=wr.heap.size+1:=aO _ _;have p:∀k,k<wr.heap.size->(wr.drew.alloc j).heap[k]?=wr.heap[k]?:=λk r=>Below.heap_alloc wr.drew _ _ r;have A:Is (wr.drew.alloc j) w3.heap.size ns G m P U:=e.below ⟨rfl,rfl,rfl,oM,p⟩;have E:=A.step d n x b c D (by rw[B];exact C);have u:∀k,k<w3.heap.size->(U s t).ownBlock≠some k:=λk r l=>by have:=((e.own s t d n).lt k l).1;omega
 have i:∀k,k<wr.heap.size->(U s t).ownBlock≠some k->w8.heap[k]?=wr.heap[k]?:=λk a g=>(c.block k oM λl=>g l.symm).trans (p k a);have z:=e.lt s d;have o:=i (G s) oM (u _ z);refine⟨⟨c.os.trans h.os,c.tape.trans h.tape,c.output.trans h.output,by rw[Xd];omega,λq a f=>?_,_,E⟩,(Xc o).trans ((e.row s d).cell n),(bJ o).trans ((e.row s d).frozen t),λq a f g=>⟨i q a g,(Below.heap_setCell _ _ _ _ f).trans (i q a g)⟩,by rw[Xd];omega⟩;exact(Below.heap_setCell _ _ _ _<|f s d).trans ((i q oM<|u q a).trans (h.fr q a f))
end
end
def JT(x:Xe)(v:Nat)(q:Bool)(j:Nat):Bool:=decide (Ya (v:Int) (Bs (G2 x.te) (v:Int)||q) (x.is.drop j)=1)
theorem WT(x:Xe)(v:Nat)(q:Bool)(a:x.is.length<=n):JT x v q n=(Bs (G2 x.te) (v:Int)||q):=by
 unfold JT;rw[mP a];unfold Ya;cases (Bs (G2 x.te) (v:Int)||q)<;>simp
theorem lP(x:Xe)(v:Nat)(q:Bool)(b:n<x.is.length):JT x v q n=(Bs (Ft x.is[n]) (v:Int)||(JT x v q (n+1)&&!decide (Fa x.is[n]=(v:Int)))):=by
 unfold JT;rw[gZ b];generalize x.is.drop (n+1)=c;show decide ((if Bs (Ft x.is[n]) (v:Int)then 1 else if Fa x.is[n]=(v:Int)then 2 else Ya (v:Int) _ c)=1)=_;by_cases e1:Bs (Ft x.is[n]) (v:Int)=true;·rw[aU e1,e1];simp
 rw[aM e1];have a:Bs (Ft x.is[n]) (v:Int)=false:=by simpa using e1
 rw[a];by_cases e2:Fa x.is[n]=(v:Int);·rw[aU e2];simp[e2]
 rw[aM e2];simp[e2]
def Ld(a:List Xe)(x:Xe)(b i v:Nat)(q:Bool):Bool:=match i with
 |0=>JT x v q 0||Yo a b v
 |j+1=>JT x v q (j+1)||(match x.is[j]? with
  |none=>false
  |some y=>decide (Fa y=(v:Int)))
theorem pG{v:Int}{f d:Bool}(h:f=true->d=true):∀(a:List Yg),Ya v f a=1->Ya v d a=1
 |[],b=>by
  unfold Ya at b |-;cases hf:f with
  |true=>rw[h hf];rfl
  |false=>rw[hf]at b;cases b
 |y::a,b=>by
  show(if Bs (Ft y) v then 1 else if Fa y=v then 2 else Ya v d a)=1;have c:(if Bs (Ft y) v then 1 else if Fa y=v then 2 else Ya v f a)=1:=b;by_cases e1:Bs (Ft y) v=true;·rw[aU e1]
  rw[aM e1]at c |-;by_cases e2:Fa y=v;·rw[aU e2]at c;cases c
  rw[aM e2]at c |-;exact pG h a c
theorem pL{v:Int}{f f':Bool}:∀(a:List Yg),Ya v f a=2->Ya v f' a=2
 |[],c=>by
  unfold Ya at c;cases f<;>cases c
 |y::a,c=>by
  show(if Bs (Ft y) v then 1 else if Fa y=v then 2 else Ya v f' a)=2;have b:(if Bs (Ft y) v then 1 else if Fa y=v then 2 else Ya v f a)=2:=c;by_cases e1:Bs (Ft y) v=true;·rw[aU e1]at b;cases b
  rw[aM e1]at b |-;by_cases e2:Fa y=v;·rw[aU e2]
  rw[aM e2]at b |-;exact pL a b
theorem qw{v:Int}{f f':Bool}:∀(b:List Yg),Ya v f b=0->f=false/\(Ya v f' b=1↔f'=true)
 |[],c=>by
  unfold Ya at c |-;cases f;·exact⟨rfl,by cases f'<;>simp⟩
  cases c
 |y::b,c=>by
  have a:(if Bs (Ft y) v then 1 else if Fa y=v then 2 else Ya v f b)=0:=c;by_cases e1:Bs (Ft y) v=true;·rw[aU e1]at a;cases a
  rw[aM e1]at a;by_cases e2:Fa y=v;·rw[aU e2]at a;cases a
  rw[aM e2]at a;have d:=qw (f':=f') b a;refine⟨d.1,?_⟩;show(if Bs (Ft y) v then 1 else if Fa y=v then 2 else Ya v f' b)=1↔_;rw[aM e1,aM e2];exact d.2
theorem sk{b:Nat}(e:b<x.length)(hq:r=true↔UV x n b):JT x[b] n r 0=true↔Wh x n b:=by
 unfold JT;rw[List.drop_zero,bD];have f:Cp x b n=Ya (n:Int) (Bs (G2 x[b].te) (n:Int)||Bs (XP x b) (n:Int)) x[b].is:=by unfold Cp Hd;rw[aC e]
 have v:=ny x b n;have q:=λh=>hq.2<|bC (XD.1 h);have s:Cp x b n=0\/Cp x b n=1\/Cp x b n=2:=oM;rcases s with c|j|d
 .have i:=c;rw[f]at i;have m:=qw (f':=Bs (G2 x[b].te) (n:Int)||r) x[b].is i;rw[m.2];have g:Bs (G2 x[b].te) (n:Int)=false/\Bs (XP x b) (n:Int)=false:=by simpa using m.1
  rw[g.1,jV,hq];constructor
  .rintro(h|⟨t,u,h⟩);·rw[XD.2 h]at g;cases g.2
   exact Wh.step e c u h.1 h.2
  intro h;cases h with
  |here _ a=>rw[c]at a;cases a
  |@step _ t _ _ a o p=>exact aZ ⟨t,a,o,p⟩
 .have k:=j;rw[f]at k;refine⟨λ_=>Wh.here e j,λ_=>pG (λh=>?_) _ k⟩;rcases dI _ _▸h with a|a;·rw[a];rfl
  rw[q a];simp
 have l:=d;rw[f]at l;rw[pL (f':=Bs (G2 x[b].te) (n:Int)||r) _ l];constructor;·intro h;cases h
 intro h;cases h with
 |here _ a=>rw[d]at a;cases a
 |step _ a _ _ _=>rw[d]at a;cases a
def VI(W:Nat->Nat)(q:Nat×List Int×List Int):Nat->Nat:=C3 (G7 (Uo W q) (X9 q.2.2)) (X9 q.2.1)
def Id(m:Nat)(W:Nat->Nat)(q:Nat×List Int×List Int):List (Nat×(Nat->Nat)):=if q.1<=m then [(q.1,Uo W q)]else []
def TZ(m:Nat):(Nat->Nat)->List (Nat×List Int×List Int)->List (Nat×(Nat->Nat))
 |_,[]=>[]
 |W,q::l=>Id m W q++TZ m (VI W q) l
theorem Ky(m:Nat)(q:Nat×List Int×List Int):∀(l:List (Nat×List Int×List Int))(W:Nat->Nat),TZ m W (l++[q])=TZ m W l++Id m (l.foldl VI W) q
 |[],W=>by simp[TZ]
 |p::l,W=>by
  show Id m W p++TZ m (VI W p) (l++[q])=(Id m W p++TZ m (VI W p) l)++Id m (l.foldl VI<|VI W p) q;rw[Ky m q l,cK]
theorem DU(h:XA f)(q:Nat×List Int×List Int):XA (Uo f q)/\XA (VI f q):=by
 have a:XA (Uo f q):=Zs _ h;exact⟨a,Zs _<|JX _ a⟩
theorem AN(l:List (Nat×List Int×List Int))(h:XA f):XA (l.foldl VI f):=by
 induction l generalizing f with
 |nil=>exact h
 |cons q l a=>exact a (DU h q).2
theorem nQ(m:Nat):∀(l:List (Nat×List Int×List Int))(W:Nat->Nat),(TZ m W l).length<=l.length
 |[],_=>aA _
 |q::l,W=>by
  have:=nQ m l<|VI W q;have h:(Id m W q).length<=1:=by unfold Id;split<;>simp
  show(Id m W q++TZ m (VI W q) l).length<=l.length+1;rw[aQ];omega
structure Sd where
 i:Nat
 C:Nat
 W:Nat->Nat
def Sd.dat(p:Sd):Nat×(Nat->Nat):=(p.i,p.W)
def oO(a z:Nat)(p:Sd):Array Value:=#[.int .i64 (p.i:Int),.agg #[.slice (some ⟨z,0,none⟩) a p.C]]
def uw(a z:Nat)(p:Sd)(V:World):Prop:=Bf V z a p.C p.W/\XA p.W
structure Lt(W:World)(n₁ l Bl Bx gl Kw C1 m:Nat)(ia:Option Addr)(ic:Nat)(W0:Nat->Nat)(J:Nat->List Sd->World->Prop)(pre:List Pl)(V:World):Prop where
 js:∃ss:List Sd,ss.map Sd.dat=TZ m W0 (pre.map Pl.dat)/\J gl ss V
 y:V.cell? ⟨W.heap.size,0,none⟩=some (.func (.yield l) #[] #[])
 lv:V.cell? ⟨Bl,0,none⟩=some (.slice (some ⟨gl,0,none⟩) Kw C1)
 ws:Bf V gl Kw C1 ((pre.map Pl.dat).foldl VI W0)
 bx:V.cell? ⟨Bx,1,none⟩=some (.slice ia m ic)
 sz:n₁<=V.heap.size
theorem Lt.own{Bx:Nat}{J:Nat->List Sd->World->Prop}(t:∀C,OwnFrom w.heap.size<|J C)(u:w.heap.size<n)(x:k<n)(y:Bx<n)(v:B<n):OwnFrom n (Lt w n m k Bx B g i j p c f J):=λE A V row h d q=>by
 have z:=h.sz;have a:∀b,b<n->V.heap[b]?=A.heap[b]?:=λb D=>d.block b oM (λe=>by have:=(q b e.symm).1;omega);let⟨l,o,s⟩:=h.js;exact⟨⟨l,o,t B l A V row s d λr e=>⟨oN<|(q r e).1,(q r e).2⟩⟩,(Xc<|a _ u).trans h.y,(Xc<|a _ x).trans h.lv,h.ws.of_block<|a _ v,(Xc<|a _ y).trans h.bx,aJ z d.size⟩
def MQ(x:Xe)(a:Nat->Nat):Nat->Nat:=VI a (x.is.length+1,G2 x.te,[])
def LY(x:Xe)(a:Nat->Nat)(k:Nat):Nat->Nat:=((Us x.is.length k).map (VH x)).foldl VI (MQ x a)
theorem m7(W:Nat->Nat)(q:Nat×List Int×List Int)(v:Nat):Xh (Uo W q) v=(decide (v∈X9 q.2.2)||Xh W v):=by
 unfold Uo;rw[YR]
theorem sI(W:Nat->Nat)(q:Nat×List Int×List Int)(v:Nat):Xh (VI W q) v=(decide (v∈X9 q.2.1)||(decide (v∉X9 q.2.2)&&Xh W v)):=by
 unfold VI;rw[YR,Kt,m7];by_cases h:v∈X9 q.2.2<;>simp[h]
theorem AX(x:Xe)(a:Nat->Nat)(b:n<x.is.length):LY x a n=VI (LY x a<|n+1) (VH x ⟨n,b⟩):=by
 unfold LY;rw[TJ b,bG,dT];rfl
theorem oh{x:Xe}{a:Nat->Nat}{v:Nat}{q:Bool}(hq:Xh a v=q)(g:∀y∈x.is,(∀v∈Ft y,0<=v)/\∀v∈BW y,0<=v)(f:∀v∈G2 x.te,0<=v):∀d k,k+d=x.is.length->Xh (LY x a k) v=JT x v q k
 |0,k,b=>by
  have b:k=x.is.length:=oM;subst b;rw[WT x v q<|aA _];unfold LY;rw[Ua];show Xh (VI a (x.is.length+1,G2 x.te,[])) v=_;rw[sI,hq,eQ,dI,dI,bD,YV f,XD];simp[X9]
 |d+1,k,b=>by
  have c:k<x.is.length:=oM;have h:=oh hq g f d (k+1) oM;have e:=g x.is[k] (aH c);rw[AX x a c,sI,h,lP x v q c];show(decide (v∈X9 (Ft x.is[k]))||(decide (v∉X9 (BW x.is[k]))&&JT x v q (k+1)))=_;have e1:decide (v∈X9 (Ft x.is[k]))=Bs (Ft x.is[k]) (v:Int):=by rw[eQ,bD,YV e.1,XD]
  have e2:decide (v∉X9 (BW x.is[k]))=!decide (Fa x.is[k]=(v:Int)):=by
   rw[eQ];simp only[bD,lV,fC,YV e.2,YN]
  rw[e1,e2,Bool.and_comm]
theorem sK(x:Xe)(a:Nat->Nat):∀d k,k+d=x.is.length->TZ x.is.length (MQ x a) ((Us x.is.length k).map (VH x))=(Us x.is.length k).map λj:Fin x.is.length=>((j:Nat)+1,Uo (LY x a<|(j:Nat)+1) (VH x j))
 |0,k,b=>by
  have b:k=x.is.length:=oM;subst b;rw[Ua];rfl
 |d+1,k,b=>by
  have c:k<x.is.length:=oM;have e:=sK x a d (k+1) oM;rw[TJ c,bG,bG,eH,fZ,Ky,e];congr 1;unfold Id;rw[aU<|show(VH x ⟨k,c⟩).1<=x.is.length from c];rfl
theorem my(x:Xe)(a:Nat->Nat):TZ x.is.length a (Hw x)=((Us x.is.length 0).map λj:Fin x.is.length=>((j:Nat)+1,Uo (LY x a<|(j:Nat)+1) (VH x j)))++[(0,Uo (LY x a 0) (0,[],x.ps.map Ph.dst))]:=by
 unfold Hw;show Id x.is.length a (x.is.length+1,G2 x.te,[])++TZ x.is.length (MQ x a) ((Us x.is.length 0).map (VH x)++[(0,[],x.ps.map Ph.dst)])=_;rw[Ky,sK x a x.is.length 0 oM];have e1:Id x.is.length a (x.is.length+1,G2 x.te,[])=[]:=by
  unfold Id;rw[aM sP]
 have e2:Id x.is.length (((Us x.is.length 0).map (VH x)).foldl VI (MQ x a)) (0,[],x.ps.map Ph.dst)=[(0,Uo (LY x a 0) (0,[],x.ps.map Ph.dst))]:=by
  unfold Id;rw[aU<|aN _];rfl
 rw[e1,e2];rfl
theorem Ei(g:Jy n x){b:Nat}(l:b<x.length)(hq:Xh f m=r)(h:(k,F)∈TZ x[b].is.length f (Hw x[b])):k<=x[b].is.length/\Xh F m=Ld x x[b] b k m r:=by
 have d:=aH l;have c:∀y∈x[b].is,(∀m∈Ft y,0<=m)/\∀m∈BW y,0<=m:=λy c=>⟨λz a=>(g.rdi _ d y c z a).1,λz a=>(g.wri _ d y c z a).1⟩;have o:=λz a=>(g.rdt _ d z a).1;rw[my]at h;rcases bU.1 h with h|h
 .let⟨j,_,e⟩:=aY.1 h
  have e1:(j:Nat)+1=k:=fI Prod.fst e;have e2:Uo (LY x[b] f ((j:Nat)+1)) (VH x[b] j)=F:=fI Prod.snd e;subst e1 e2;have i:=j.isLt;refine⟨i,?_⟩;rw[m7,oh hq c o (x[b].is.length-(j+1)) (j+1) oM];show _=(JT x[b] m r ((j:Nat)+1)||(match x[b].is[(j:Nat)]? with
   |none=>false
   |some y=>decide (Fa y=(m:Int))))
  rw[aC i,nF];congr 1;rw[eQ,bD,bD,YN];exact YV (c _<|aH i).2
 have e:=cS.1 h;have e1:k=0:=fI Prod.fst e;have e2:F=Uo (LY x[b] f 0) (0,[],x[b].ps.map Ph.dst):=fI Prod.snd e;subst e1 e2;refine⟨aN _,?_⟩;rw[m7,oh hq c o x[b].is.length 0 oM];show _=(JT x[b] m r 0||Yo x b m);rw[nF];congr 1;unfold Yo;rw[aC l,eQ,bD];show m∈X9 (x[b].ps.map Ph.dst)↔Bs (x[b].ps.map Ph.dst) (m:Int)=true;rw[XD];exact YV λz a=>by obtain⟨q,p,rfl⟩:=aY.1 a;exact(g.phd _ d q p).1
theorem tK(e:Jy n x){b:Nat}(f:b<x.length)(hq:r=true->m<n)(h:JT x[b] m r k=true):m<n:=by
 have d:=aH f;unfold JT at h;rcases TV _ (fV h)with a|⟨y,g,a⟩
 .rcases dI _ _▸a with c|c;·have:=(e.rdt _ d _<|XD.1 c).2;omega
  exact hq c
 have:=(e.rdi _ d y (List.mem_of_mem_drop g) _ a).2;omega
theorem ER(d:Jy n x){b:Nat}(c:b<x.length)(hq:r=true->m<n)(h:Ld x x[b] b k m r=true):m<n:=by
 have e:=aH c;cases k with
 |zero=>
  rcases dI _ _▸(show(JT x[b] m r 0||Yo x b m)=true from h)with a|a;·exact tK d c hq a
  unfold Yo at a;rw[aC c]at a;let⟨p,i,l⟩:=aY.1<|XD.1 a;have:=(d.phd _ e p i).2;omega
 |succ j=>
  have f:(JT x[b] m r (j+1)||(match x[b].is[j]? with
   |none=>false
   |some y=>decide (Fa y=(m:Int))))=true:=h
  rcases dI _ _▸f with a|a;·exact tK d c hq a
  cases hj:x[b].is[j]? with
  |none=>rw[hj]at a;cases a
  |some y=>
   rw[hj]at a;have g:=YN.1<|fV a;have:=(d.wri _ e y (eN hj) _ g).2;omega
open Classical in
noncomputable def Uq(a:List Xe)(x:Xe)(V b i:Nat):List Nat:=(List.range V).filter λv=>Ld a x b i v<|decide (UV a v b)
open Classical in
theorem uj(c:Jy n x){b:Nat}(a:b<x.length)(l:n<=m)(hq:∀v,v<m->(Xh f v=true↔UV x v b)){W:Nat->Nat}(h:(i,W)∈TZ x[b].is.length f (Hw x[b])):Hc W m=Uq x x[b] n b i:=by
 have e:∀v,v<m->Xh W v=Ld x x[b] b i v (decide (UV x v b)):=λv d=>(Ei c a (by rw[eQ,hq v d,bD]) h).2
 rw[nj l (λv o g=>by
  rw[<-gU,e v g];intro j;have:=ER c a (λk=>(fV k:UV x v b).val c a) j;omega)]
 unfold Hc Uq;apply lW;intro v d;have:=bE.1 d;exact e v oM
noncomputable def UU(a:List Xe)(v b i:Nat):List Int:=match a[b]? with
 |none=>[]
 |some x=>Xi<|Uq a x v b i
open Classical in
noncomputable def Ia(a:List Xe)(b i v:Nat):Bool:=match a[b]? with
 |none=>false
 |some x=>Ld a x b i v<|decide (UV a v b)
theorem AD(a:List Xe)(b i:Nat):UU a 0 b i=[]:=by
 unfold UU;cases a[b]?<;>rfl
theorem qW(a:List Xe)(v b i:Nat):UU a (v+1) b i=if Ia a b i v=true then UU a v b i++[(v:Int)]else UU a v b i:=by
 unfold UU Ia;cases a[b]? with
 |none=>simp
 |some x=>
  simp only;unfold Uq;rw[dN,eU];by_cases h:Ld a x b i v (@decide (UV a v b) (Classical.propDecidable _))=true
  .rw[aU h];simp[h,Xi]
  rw[aM h];simp[h]
theorem m8(a:List Xe)(v b i:Nat):(UU a v b i).length<=v:=by
 unfold UU;cases a[b]? with
 |none=>exact aN _
 |some x=>
  simp only[Xi,bK];unfold Uq;exact aJ (fJ _ _) sP
noncomputable def pQ(a:List Xe)(v b i:Nat)(s j:Nat):List Int:=if s<b\/s=b/\j<i then UU a (v+1) s j else UU a v s j
theorem Dp(a:List Xe)(v:Nat)(s j:Nat):pQ a v 0 0 s j=UU a v s j:=by
 unfold pQ;rw[aM oM]
theorem DX(b:List Xe)(v a:Nat)(j:Nat)(c:n<a):pQ b v a 0 n j=UU b (v+1) n j:=by
 unfold pQ;rw[aU<|bC c]
theorem Cx{b:Nat}(a:k=b->B<m):pQ x n b m k B=pQ x n (b+1) 0 k B:=by
 unfold pQ;by_cases h:k<b+1;·rw[aU (by by_cases e:k=b;(· exact aZ ⟨e,a e⟩);(· exact bC oM)),aU<|bC h]
 rw[aM oM,aM oM]
theorem EI{b:Nat}(h:Ia x b m n=false)(s j:Nat):pQ x n b m s j=pQ x n b (m+1) s j:=by
 unfold pQ;by_cases e:s=b/\j=m
 .obtain⟨rfl,rfl⟩:=e;rw[aM oM,aU oM,qW,h];simp
 by_cases a:s<b\/s=b/\j<m;·rw[aU a,aU oM]
 rw[aM a,aM oM]
theorem D7{b:Nat}(h:Ia x b m n=true)(s j:Nat):(if (s,j)=(b,m)then pQ x n b m b m++[(n:Int)]else pQ x n b m s j)=pQ x n b (m+1) s j:=by
 by_cases e:(s,j)=(b,m)
 .rw[aU e];injection e with e1 e2;subst e1 e2;unfold pQ;rw[aM oM,aU oM,qW,aU h]
 rw[aM e];have c:¬(s=b/\j=m):=λh=>e (by rw[h.1,h.2]);unfold pQ;by_cases a:s<b\/s=b/\j<m;·rw[aU a,aU oM]
 rw[aM a,aM oM]
theorem D4(a:List Xe)(v b i s j:Nat):(pQ a v b i s j).length<=v+1:=by
 unfold pQ;split;·exact m8 _ _ _ _
 have:=m8 a v s j;omega
structure Lz(w2 wr:World)(u:Value)(b:Nat)(m:Nat->Nat)(G:Nat->Nat):Prop where
 low:Below w2.heap.size w2 wr
 own:wr.ownsRow w2.heap.size 67 1 u b ((List.range b).map λs=>.slice (some ⟨G s,0,none⟩) (m s) (m s))
 row:∀s,s<b->w2.heap.size<=G s/\wr.rowIs (G s) 69 (m s) λ_=>.slice none 0 0
 ne:∀s s',s<b->s' < b->s≠s'->G s≠G s'
theorem Lz.start(a:World)(m:Nat->Nat):Lz a (a.alloc<|.cells #[] 67) (.slice (some ⟨a.heap.size,0,none⟩) 0 0) 0 m (λ_=>0):=⟨Xb (Below.refl _ _) _,eI (base:=a.heap.size) (e:=67) (size:=1) a #[] 0 sP sP rfl,λs h=>absurd h oM,λs b h=>absurd h oM⟩
theorem Lz.push{wr:World}{u':Value}{b:Nat}{D:Obj}(h:Lz w wr a b f F)(i:((wr.alloc<|.cells (madeCells #[.slice none 0 0] (f b)) 69).alloc D).grownBy v a.ownBlock)(A:v.ownsRow w.heap.size 67 1 u' (b+1) ((List.range b).map (λs=>Value.slice (some ⟨F s,0,none⟩) (f s) (f s))++[.slice (some ⟨wr.heap.size,0,none⟩) (f b) (f b)])) :
 Lz w v u' (b+1) f (λs=>if s=b then wr.heap.size else F s):=by
 have C:=h.low.size;have x:=i.size;rw[aO,aO]at x;have z:∀q T t o,wr.rowIs q T t o->T≠67->a.ownBlock≠some q:=λq T t o j u e=>by
  let⟨c,k,_⟩:=j;rcases h.own.2 with⟨e1,_⟩|⟨g,cap,cur,e1,_,d,_⟩;·rw[e1]at e;cases e
  rw[e1]at e;injection e with e;have e:g=q:=e;subst e;rw[show wr.heap[g]?=_ from k]at d;injection d with d;injection d with _ m;exact u m
 have B:=λq e=>(h.own.lt q e).2;have r:∀q,q<wr.heap.size->a.ownBlock≠some q->v.heap[q]?=wr.heap[q]?:=λq k d=>(i.block q (by rw[aO,aO];omega) λe=>d e.symm).trans ((Below.heap_alloc _ _ _<|by rw[aO];omega).trans (Below.heap_alloc _ _ _ k));have y:v.heap[wr.heap.size]?=(wr.alloc<|.cells (madeCells #[Hq] (f b)) 69).heap[wr.heap.size]?:=(i.block _ (by rw[aO,aO];omega) λe=>by have:=B _ e.symm;omega).trans (Below.heap_alloc _ _ _<|by rw[aO];omega);refine⟨⟨i.os.trans h.low.os,i.tape.trans h.low.tape,i.output.trans h.low.output,oM,λq hq=>(r q oM λe=>by have:=(h.own.lt q e).1;omega).trans (h.low.block q hq)⟩,?_,λs l=>?_,λs n k d m=>?_⟩
 .rw[dN,bG,eH,fZ,aU rfl,gH (g:=λs=>Hl (F s) (f s) (f s)) λs l=>by rw[aM<|oN (bE.1 l)]];exact A
 .by_cases e:s=b
  .subst e;rw[aU rfl];exact⟨C,(dG wr Hq (f s) 69).of_block y⟩
  rw[aM e];have j:=h.row s oM;exact⟨j.1,j.2.of_block<|r _ j.2.lt (z _ _ _ _ j.2 vZ)⟩
 have p:=λs l=>(h.row s l).2.lt;by_cases e1:s=b
 .have:=p n oM;rw[aU e1,aM oM];omega
 by_cases e2:n=b
 .have:=p s oM;rw[aM e1,aU e2];omega
 rw[aM e1,aM e2];exact h.ne s n oM oM m
section
open Classical in
noncomputable def Ir(xs:List Xe)(b v k:Nat):Bool:=match xs[b]? with
 |none=>false
 |some x=>JT x v (decide (UV xs v b)) k
section
variable {xs: List Xe} {b v: Nat}
theorem Ar:Ia xs b 0 v=(Ir xs b v 0||Yo xs b v):=by
 unfold Ia Ir Yo;cases h:xs[b]? with
 |none=>rfl
 |some x=>simp only[Ld,Yo,h]
theorem A6{j:Nat}(a:j<(Tu xs b).length):Ia xs b (j+1) v=(Ir xs b v (j+1)||decide ((Tu xs b)[j]=(v:Int))):=by
 have c:=a;revert a;unfold Ia Ir Tu at*;cases h:xs[b]? with
 |none=>intro a;exact absurd a sP
 |some x=>
  intro a;simp only[Z2,bK]at a;simp only[Ld,Z2,cM];rw[aC a]
open Classical in
theorem Dr(a:b<xs.length){q:Bool}(hq:q=true↔UV xs v b):Ir xs b v (Tu xs b).length=(q||Bs (L5 xs b) (v:Int)):=by
 have e:(@decide (UV xs v b) (Classical.propDecidable _))=q:=by rw[eQ,hq,bD]
 unfold Ir Tu L5;rw[aC a];simp only[Z2,bK];rw[WT _ _ _<|aA _,e,nF]
theorem AS{j:Nat}(a:j<(Tu xs b).length)(c:j<(I8 xs b).length):Ir xs b v j=(Bs (I8 xs b)[j] (v:Int)||(Ir xs b v (j+1)&&!decide ((Tu xs b)[j]=(v:Int)))):=by
 revert a c;unfold Ir Tu I8;cases h:xs[b]? with
 |none=>intro a;exact absurd a sP
 |some x=>
  intro a c;simp only[Z2,bK]at a;simp only[Z2,Jv,cM];exact lP _ _ _ a
open Classical in
theorem Dg(a:b<xs.length):Ir xs b v 0=true↔Wh xs v b:=by
 unfold Ir;rw[aC a];exact sk a<|by rw[bD]
theorem DZ:(I8 xs b).length=(Tu xs b).length:=by
 unfold I8 Tu;cases xs[b]? with
 |none=>rfl
 |some x=>simp[Jv,Z2]
end
theorem BT(xs:List Xe)(b:Nat):∀l∈I8 xs b,l.length<=2:=λl a=>by
 unfold I8 at a;cases h:xs[b]? with
 |none=>rw[h]at a;exact absurd a eA
 |some x=>
  rw[h]at a;let⟨y,_,c⟩:=aY.1 a;rw[<-c];exact jx y
structure I9(wb wr:World)(gl n:Nat)(lv:Nat->Bool)(gi m:Nat)(f:Nat->Bool):Prop where
 low:Below wb.heap.size wb wr
 gll:gl<wb.heap.size
 lr:wr.rowIs gl 4 n λz=>.bool (lv z)
 ge:wb.heap.size<=gi
 ir:wr.rowIs gi 4 m λz=>.bool (f z)
section
variable {wb wr w': World} {gl n gi m: Nat} {lv f f': Nat -> Bool}
theorem I9.below(h:I9 wb wr gl n lv gi m f)(k:Below wr.heap.size wr w'):I9 wb w' gl n lv gi m f:=⟨Xg h.low k,h.gll,h.lr.of_block<|k.block _ h.lr.lt,h.ge,h.ir.of_block<|k.block _ h.ir.lt⟩
theorem I9.congr(h:I9 wb wr gl n lv gi m f)(e:∀z,z<m->f z=f' z):I9 wb wr gl n lv gi m f':=⟨h.low,h.gll,h.lr,h.ge,UC (C:=Value.bool) h.ir e⟩
theorem I9.set(h:I9 wb wr gl n lv gi m f)(k:Nat)(q:Bool):I9 wb (wr.setCell ⟨gi,k,none⟩ (.bool q)) gl n lv gi m (λz=>if z=k then q else f z):=by
 have:=h.ge;have:=h.gll;exact⟨h.low.setCell (by show wb.heap.size<=gi;omega) _,h.gll,h.lr.setOther (by show gl≠gi;omega) _,h.ge,TS (C:=Value.bool) h.ir k q⟩
end
noncomputable def LS(xs:List Xe)(b v k z:Nat):Bool:=decide (k<z)&&Ia xs b z v
theorem Dw{xs:List Xe}{b v k:Nat}{z:Nat}(a:z<k+1):LS xs b v k z=false:=by unfold LS;simp;omega
theorem Ba{xs:List Xe}{b v j:Nat}{q:Bool}(hq:q=Ia xs b (j+1) v)(z:Nat):(if z=j+1 then q else LS xs b v (j+1) z)=LS xs b v j z:=by
 unfold LS;by_cases e:z=j+1
 .subst e;rw[aU rfl,hq];simp
 rw[aM e];by_cases h:j<z;·rw[eB h,eB<|show j+1<z by omega]
 rw[dJ h,dJ<|show ¬j+1<z by omega]
theorem Cq{xs:List Xe}{b v:Nat}{q:Bool}(hq:q=Ia xs b 0 v)(z:Nat):(if z=0 then q else LS xs b v 0 z)=Ia xs b z v:=by
 by_cases e:z=0;·subst e;rw[aU rfl,hq]
 rw[aM e];unfold LS;rw[eB (show 0<z by omega),Bool.true_and]
def Fg(w w':World)(n V:Nat)(xs:List Xe)(e:Ending):Prop:=∃(a c:Nat)(G:Nat->Nat),e=.returned (.slice (some ⟨a,0,none⟩) n c)/\Below w.heap.size w w'/\w.heap.size<=a/\∀s,s<n->w'.cell? ⟨a,s,none⟩=some (.slice (some ⟨G s,0,none⟩) ((Tu xs s).length+1) ((Tu xs s).length+1))/\w.heap.size<=G s/\XR w' w.heap.size w'.heap.size (some ⟨G s,0,none⟩) ((List.range<|(Tu xs s).length+1).map (UU xs V s))
end
def Zj(k:Nat):Code->Option Code
 |.region i ops d=>if i=k then some (.region i ops d)else none
 |.seq x y=>match Zj k x with
  |some c=>some c
  |none=>Zj k y
 |.block _ c=>Zj k c
 |.scope c=>Zj k c
 |.loop c=>Zj k c
 |.cond _ x y=>match Zj k x with
  |some c=>some c
  |none=>Zj k y
 |_=>none
noncomputable def EM:Code:=(f21.body.bind<|Zj 27).getD .skip
theorem Ew(V v n cO a b k e r q:Nat)(f:List Xe)(lv:Nat->Bool)(G m:Nat->Nat)(h wr:World)(Q:Exit->Act->World->Prop)(c0 c1 c2 c3 c5 c7 c9 L Y aq bl bz b8 ca cc cd ce cf cg ch ci cj ck cl cm co cp cq cr cs ct cv cw cx cz c6 da db dc dd df di dj dk dl dn ds du dw d0 d1 d2 d3 d4 d5 ea eb ec ed ee ef eg ei ej ek el em ep eq er es et eu ev ey ez e0 e6 e7 e8 e9 fa fb fc fe fi fl fq fr fs fx fz f0 f7 ga gb M N O P R S T U W X Z aa ab ac ad af aj al ao ap ar ax ay az a0 a1 a2 a3 a4 a5 a6 a7 a8 a9 ba bb bc bd bf bi bm bn bo bp bq br bt bv bw bx b0 b1 b3 b4 b5 b6 b7 g1 g2 g3 g4 g5 g6 g7 g9 hb hc hd he hf hg hh hi hj hk hl hm cb:Value)
 (hQ:Hs (∀c (J:Act) t v w,Q (.panic c) (J.put (some t) v) w->Q (.panic c) J w)) (hv:v<V) (hV:V<=2000) (d:b<n) (im:k<e+1) (H:Hs (m b=e+1)) (j:Hs (Ie h wr n G m<|pQ f v b k)) (C:Hs (wr.rowIs r 4 n λz=>.bool (lv z))) (D:Hs (wr.rowIs q 4 (e+1) λz=>.bool (Ia f b z v))) (gz:Hs (Ia f b k v=true))
 (gv:Hs (h.cell? ⟨a,b,none⟩=some (.slice (some ⟨G b,0,none⟩) (m b) (m b)))) (I:Hs (∀s,s<n->a≠G s)) (i5:a<h.heap.size) (gp:Hs (h.heap.size<=r)) (gm:Hs (h.heap.size<=q))
 (hN:Hs (∀(ho hp hr ht hw hx hy hz h0 h1 h2 h3 h4 h5 h6 h7 h8 h9 ia ib:Value)(B:World),Hs (Ie h B n G m<|pQ f v b (k+1))->Hs (B.rowIs r 4 n λz=>.bool (lv z))->Hs (B.rowIs q 4 (e+1) λz=>.bool (Ia f b z v))->Q .normal ⟨#[c0,c1,c2,c3,.slice (some ⟨a,0,none⟩) n cO,c5,.int .i64 (v:Int),c7,.int .i64 (b:Int),c9,L,Y,aq,.int .i64 (k:Int),bl,bz,b8,ca,cc,cd,ce,cf,cg,ch,ci,cj,ck,cl,cm,co,cp,cq,cr,cs,ct,cv,cw,cx,cz,c6,da,db,dc,dd,df,di,dj,dk,dl,dn,ds,du,dw,d0,d1,d2,d3,d4,d5,ea,eb,ec,ed,ee,ef,eg,ei,ej,ek,el,em,ep,eq,er,es,et,eu,ev,ey,ez,e0,e6,e7,e8,e9,fa,fb,fc,fe,fi,fl,fq,fr,fs,fx,fz,f0,f7,ga,gb,M,N,O,P,R,S,T,U,W,X,Z,aa,ab,ac,ad,af,aj,al,ao,ap,ar,ax,ay,az,a0,a1,a2,a3,a4,a5,a6,a7,a8,a9,ba,bb,bc,bd,bf,bi,bm,bn,bo,bp,bq,br,bt,bv,bw,bx,b0,b1,b3,b4,b5,b6,b7,ho,hp,hr,ht,hw,hx,hy,hz,h0,h1,h2,h3,h4,h5,h6,h7,h8,h9,ia,ib,cb],[]⟩ B)) :
 Code.wp prog EM Q ⟨#[c0,c1,c2,c3,.slice (some ⟨a,0,none⟩) n cO,c5,.int .i64 (v:Int),c7,.int .i64 (b:Int),c9,L,Y,aq,.int .i64 (k:Int),bl,bz,b8,ca,cc,cd,ce,cf,cg,ch,ci,cj,ck,cl,cm,co,cp,cq,cr,cs,ct,cv,cw,cx,cz,c6,da,db,dc,dd,df,di,dj,dk,dl,dn,ds,du,dw,d0,d1,d2,d3,d4,d5,ea,eb,ec,ed,ee,ef,eg,ei,ej,ek,el,em,ep,eq,er,es,et,eu,ev,ey,ez,e0,e6,e7,e8,e9,fa,fb,fc,fe,fi,fl,fq,fr,fs,fx,fz,f0,f7,ga,gb,M,N,O,P,R,S,T,U,W,X,Z,aa,ab,ac,ad,af,aj,al,ao,ap,ar,ax,ay,az,a0,a1,a2,a3,a4,a5,a6,a7,a8,a9,ba,bb,bc,bd,bf,bi,bm,bn,bo,bp,bq,br,bt,bv,bw,bx,b0,b1,b3,b4,b5,b6,b7,g1,g2,g3,g4,g5,g6,g7,g9,hb,hc,hd,he,hf,hg,hh,hi,hj,hk,hl,hm,cb],[]⟩ wr:=by
 conv=>arg 2;whnf
 have jl:(k:Int)<=(e:Int):=oM;have js:(k:Int)<(e:Int)+1:=oM;have jj:(b:Int)<(n:Int):=oM;have g:k<m b:=by rw[H.o];exact im
 obtain⟨g0,i⟩:=j.db;obtain⟨ua,uc,y,_⟩:=Xk<|i.own b k d g;have l:=Xa i;have E:=Xa y;obtain⟨A,x⟩:∃i4,i4=(pQ f v b k b k).length:=⟨_,rfl⟩;have jv:A<=2001:=oN<|D4 f v b k b k;have o:=Xa x;have gx:=Xa (by have gc:=i.own b k d g;rw[y,<-x]at gc;exact gc);have eG:wr.cell? ⟨G b,k,none⟩=some (.slice ua A uc):=by rw[(i.row b d).cell g,y,x]
 have p:=j.cell (λs hs=>I s hs) gv;rw[H.o]at p;have j0:=j.size;have ja:=i.lt b d;have jc:G b<wr.heap.size:=oM;have ih:=I b d;have il:a<wr.heap.size:=aI wr _ p;have gs:=Xa<|l.other C vZ d g;have gr:=Xa<|l.other D vZ d g;have gt:Hs ((g0 b k).ownBlock≠some a):=Xa (λic=>by have:=((l.own b k d g).lt _ ic).1;omega);obtain⟨m0,ir,iv,i0,i1⟩:=Xq Nv;clear i y x;refine Y7 (λw'=>w'.cell? ⟨a,b,none⟩=some (.slice (some ⟨G b,0,none⟩) (e+1) (e+1))) λhHeld=>?_;refine X0 0 ?_;refine X0 1 ?_;refine X0 2 ?_;refine X0 3 ?_;refine X0 4 ?_;refine X0 5 ?_;refine X0 6 ?_;refine X0 7 ?_;refine X0 8 ?_;refine X0 9 ?_;refine X0 10 ?_;refine X0 11 ?_;refine X0 12 ?_;refine X0 13 ?_;refine X0 15 ?_;refine eS (rs:=[14,16]) kR sP ?_;refine(bQ rfl (λK hK=>?_) (bQ rfl (λK hK=>?_) dY));go_simp;refine hK _ _ kP λhHeld=>?_;clear hK
 try simp only[xX]
 refine Xs 16 λK hK=>?_;go_simp;refine hK _ _ kP λhHeld=>?_;clear hK;rotate_left;go_simp;refine hK _ _ kP λhHeld=>?_;clear hK
 try simp only[xX]
 refine Xs 14 λK hK=>?_;go_simp;refine hK _ _ kP λhHeld=>?_;clear hK
 all_goals (
  refine Xs 17 λK hK=>?_;refine dm rfl _ _ 27 rfl h.heap.size 2 m0 (.int .i64 0) 1 8 underlying27 ir iv i0 i1 rfl vZ (.slice ua A uc) A ((pQ f v b k b k).map (Value.int .i64)) rfl ?s1 ⟨wr.heap.size,0,none⟩ 1 1 [.int .i64 (v:Int)] rfl rfl ?s2 ?s3 ?s4 ?s5 ?s6 ?_
  case s1=>exact(gx.drew).alloc _
  case s2=>exact Yf _ _ _
  case s3=>intro j1 hu;simp at hu;subst hu;rfl
  case s4=>unfold maxLen;omega
  case s5=>omega
  case s6=>simp;omega
  intro v8 w8 F gf _ ge;obtain⟨g8,c8,rfl,_,_⟩:=Xm F oM;obtain⟨gd,hn,i6,u,i2⟩:=j.push (x:=(v:Int)) (s:=b) (t:=k) l d g (by rw[E.o,<-o.o];exact gf) (by rw[<-o.o];exact F) (by rw[E.o,<-o.o];simpa using ge);rw[E.o,<-o.o]at hn;have q1:=u a il ih gt;have q2:=u r C.lt (oN gp.o) gs;have q3:=u q D.lt (oN gm.o) gr;have z6:=(Xc (o:=b) q1.1).trans p;have z7:=(Xc (o:=b) q1.2).trans p;have gg:=Xa (gd.congr λs i3 _ _=>D7 gz s i3);have gh:=Xa<|C.of_block q2.2;have gq:=Xa<|D.of_block q3.2;clear F gf ge gd u i2 q1 q2 q3;refine hK _ _ z6 λhHeld=>?_;clear hK;refine X0 18 ?_;refine X0 19 ?_;refine Xs 20 λK hK=>?_;go_simp;refine hK _ _ z7 λhHeld=>?_;clear hK;refine Yq ?_;exact hN _ _ _ _ _ _ _ _ _ _ _ _ _ _ _ _ _ _ _ _ _ gg gh gq)
end Go.Proofs.YtffcajcgkblkoaaGreatDoor
