import Derived.Test.YtlmgmkmomaileaaGreatDoorMV1
import Derived.Test.YtlmgmkmomaileaaGreatDoorAL2
namespace Go.Proofs.YtlmgmkmomaileaaGreatDoor
open Go.RowKit
def ZQ(x:Xh):List (List Int):=x.instrs.map rdI
def Zk(x:Xh):List Int:=x.instrs.map defI
theorem Yj.mono{w:World}{P Q:Nat->Prop}{a:Option Addr}{xs:List Int}(h:Yj w P a xs)(k:∀b,b<w.heap.size->P b->Q b):Yj w Q a xs:=fun i hi=>by
 obtain⟨b,o,e,hb,hc⟩:=h i hi;exact⟨b,o,e,⟨k b hb.2 hb.1,hb.2⟩,hc⟩
theorem Yj.keep{w w':World}{P:Nat->Prop}{a:Option Addr}{xs:List Int}(h:Yj w P a xs)(k:∀b,b<w.heap.size->P b->w'.heap[b]?=w.heap[b]?)(hz:w.heap.size<=w'.heap.size):Yj w' P a xs:=fun i hi=>by
 obtain⟨b,o,e,hb,hc⟩:=h i hi;exact⟨b,o,e,⟨hb.1,Nat.lt_of_lt_of_le hb.2 hz⟩,(Xc (k b hb.2 hb.1)).trans hc⟩
theorem KQ.mono{w:World}{P Q:Nat->Prop}{a:Option Addr}{xs:List (List Int)}(h:KQ w P a xs)(k:∀b,b<w.heap.size->P b->Q b):KQ w Q a xs:=fun i hi=>by
 obtain⟨b,o,e,hb,a',c',hc,h2⟩:=h i hi;exact⟨b,o,e,⟨k b hb.2 hb.1,hb.2⟩,a',c',hc,h2.mono k⟩
theorem KQ.keep{w w':World}{P:Nat->Prop}{a:Option Addr}{xs:List (List Int)}(h:KQ w P a xs)(k:∀b,b<w.heap.size->P b->w'.heap[b]?=w.heap[b]?)(hz:w.heap.size<=w'.heap.size):KQ w' P a xs:=fun i hi=>by
 obtain⟨b,o,e,hb,a',c',hc,h2⟩:=h i hi;exact⟨b,o,e,⟨hb.1,Nat.lt_of_lt_of_le hb.2 hz⟩,a',c',(Xc (k b hb.2 hb.1)).trans hc,h2.keep k hz⟩
theorem Yj.of_at{w:World}{L B:Nat}{P:Nat->Prop}{a:Option Addr}{xs:List Int}(h:Xf w L B a xs)(hB:B<=w.heap.size)(k:∀b,L<=b->b<B->P b):Yj w P a xs:=fun i hi=>by
 obtain⟨b,o,e,hb,hc⟩:=h i hi;exact⟨b,o,e,⟨k b hb.1 hb.2,oM⟩,hc⟩
theorem Yj.at_{w:World}{P:Nat->Prop}{a:Option Addr}{xs:List Int}(h:Yj w P a xs):Xf w 0 w.heap.size a xs:=fun i hi=>by
 obtain⟨b,o,e,hb,hc⟩:=h i hi;exact⟨b,o,e,⟨Nat.zero_le _,hb.2⟩,hc⟩
structure UO(w:World)(P:Nat->Prop)(us:Nat->Value)(x:Xh)(E:List Int):Prop where
 e0:∃a c,us 0=.slice a x.term.targets.length c/\Yj w P a x.term.targets
 e1:∃a c,us 1=.slice a (x.phis.map Ph.dst).length c/\Yj w P a (x.phis.map Ph.dst)
 e2:∃a c,us 2=.slice a E.length c/\Yj w P a E
 e3:∃a c,us 3=.slice a (ZQ x).length c/\KQ w P a (ZQ x)
 e4:∃a c,us 4=.slice a (Zk x).length c/\Yj w P a (Zk x)
 e5:∃a c,us 5=.slice a (rdT x.term).length c/\Yj w P a (rdT x.term)
theorem UO.keep{w w':World}{P:Nat->Prop}{us:Nat->Value}{x:Xh}{E:List Int}(h:UO w P us x E)(k:∀b,b<w.heap.size->P b->w'.heap[b]?=w.heap[b]?)(hz:w.heap.size<=w'.heap.size):UO w' P us x E:=by
 obtain⟨⟨a0,c0,e0,h0⟩,⟨a1,c1,e1,h1⟩,⟨a2,c2,e2,h2⟩,⟨a3,c3,e3,h3⟩,⟨a4,c4,e4,h4⟩,⟨a5,c5,e5,h5⟩⟩:=h;exact⟨⟨a0,c0,e0,h0.keep k hz⟩,⟨a1,c1,e1,h1.keep k hz⟩,⟨a2,c2,e2,h2.keep k hz⟩,⟨a3,c3,e3,h3.keep k hz⟩,⟨a4,c4,e4,h4.keep k hz⟩,⟨a5,c5,e5,h5.keep k hz⟩⟩
theorem UO.mono{w:World}{P Q:Nat->Prop}{us:Nat->Value}{x:Xh}{E:List Int}(h:UO w P us x E)(k:∀b,b<w.heap.size->P b->Q b):UO w Q us x E:=by
 obtain⟨⟨a0,c0,e0,h0⟩,⟨a1,c1,e1,h1⟩,⟨a2,c2,e2,h2⟩,⟨a3,c3,e3,h3⟩,⟨a4,c4,e4,h4⟩,⟨a5,c5,e5,h5⟩⟩:=h;exact⟨⟨a0,c0,e0,h0.mono k⟩,⟨a1,c1,e1,h1.mono k⟩,⟨a2,c2,e2,h2.mono k⟩,⟨a3,c3,e3,h3.mono k⟩,⟨a4,c4,e4,h4.mono k⟩,⟨a5,c5,e5,h5.mono k⟩⟩
structure EdL(W1:World)(bx:Nat)(f0:Nat->Value)(wr:World)(u:Value)(l:List Int):Prop where
 os:wr.os=W1.os
 tape:wr.tape=W1.tape
 output:wr.output=W1.output
 size:W1.heap.size<=wr.heap.size
 fr:∀q,q<W1.heap.size->q≠bx->wr.heap[q]?=W1.heap[q]?
 box:wr.rowIs bx 176 6 (fun i=>if i=2 then u else f0 i)
 own:wr.ownsRow W1.heap.size 2 1 u l.length (l.map (Value.int .i64))
section
variable {W1 wr w5 w6 : World} {bx : Nat} {f0 : Nat -> Value} {u u' : Value} {l qs : List Int}
theorem EdL.start(hb:W1.rowIs bx 176 6 f0)(h2:f0 2=.slice none 0 0):EdL W1 bx f0 W1 (.slice none 0 0) [] :=
 ⟨rfl,rfl,rfl,Nat.le_refl _,fun _ _ _=>rfl,hb.congr (fun i _=>by by_cases e:i=2<;>simp[e,h2]),World.ownsRow_nil _ _ _ _⟩
theorem EdL.push(h:EdL W1 bx f0 wr u l)(hx:bx<W1.heap.size)(k5:Below wr.heap.size wr w5)(hg:w5.grownBy w6 u.ownBlock)(ho:w6.ownsRow W1.heap.size 2 1 u' (l++qs).length ((l++qs).map (Value.int .i64))):EdL W1 bx f0 (w6.setCell ⟨bx,2,none⟩ u') u' (l++qs):=by
 have hz:=h.size;have hz5:=k5.size;have hz6:=hg.size;have hbl:∀q,q<W1.heap.size->w6.heap[q]?=wr.heap[q]?:=fun q hq=>(hg.block q oM (fun e=>by have:=(h.own.lt q e.symm).1;omega)).trans (k5.block q oM)
 refine⟨hg.os.trans (k5.os.trans h.os),hg.tape.trans (k5.tape.trans h.tape),hg.output.trans (k5.output.trans h.output),by rw[Xe];omega,fun q h1 h2=>(Below.heap_setCell _ _ _ _ h2).trans ((hbl q h1).trans (h.fr q h1 h2)),((h.box.of_block (hbl bx hx)).set 2 u').congr (fun i _=>by by_cases e:i=2<;>simp[e]),ownsRow_setCell_below ho hx _⟩
theorem EdL.cell(h:EdL W1 bx f0 wr u l){b o:Nat}{v:Value}(hb:b≠bx)(hc:W1.cell? ⟨b,o,none⟩=some v):wr.cell? ⟨b,o,none⟩=some v:=(Xc (h.fr b (World.block_lt_of_cell? W1 _ hc) hb)).trans hc
end
structure InL(W2:World)(bx:Nat)(f0:Nat->Value)(wr:World)(ur ud:Value)(rs:List Value)(zs:List (List Int))(ds:List Int):Prop where
 os:wr.os=W2.os
 tape:wr.tape=W2.tape
 output:wr.output=W2.output
 size:W2.heap.size<=wr.heap.size
 fr:∀q,q<W2.heap.size->q≠bx->wr.heap[q]?=W2.heap[q]?
 box:wr.rowIs bx 176 6 (fun i=>if i=3 then ur else if i=4 then ud else f0 i)
 ownR:wr.ownsRow W2.heap.size 78 1 ur rs.length rs
 len:rs.length=zs.length
 rows:∀i (h:i<zs.length),∃a' c',rs[i]?=some (.slice a' zs[i].length c')/\Yj wr (fun b=>W2.heap.size<=b/\some b≠ur.ownBlock/\some b≠ud.ownBlock) a' zs[i]
 ownD:wr.ownsRow W2.heap.size 2 1 ud ds.length (ds.map (Value.int .i64))
 ne:∀g,ur.ownBlock=some g->ud.ownBlock≠some g
section
variable {W2 wr w5 w6 : World} {bx : Nat} {f0 : Nat -> Value} {ur ud ur' ud' : Value} {rs : List Value} {zs : List (List Int)} {ds : List Int}
theorem InL.start(hb:W2.rowIs bx 176 6 f0)(h3:f0 3=.slice none 0 0)(h4:f0 4=.slice none 0 0):InL W2 bx f0 W2 (.slice none 0 0) (.slice none 0 0) [] [] [] :=
 ⟨rfl,rfl,rfl,Nat.le_refl _,fun _ _ _=>rfl,hb.congr (fun i _=>by by_cases e:i=3<;>by_cases e2:i=4<;>simp[e,e2,h3,h4]),World.ownsRow_nil _ _ _ _,rfl,fun i h=>absurd h sP,World.ownsRow_nil _ _ _ _,fun g e=>by cases e⟩
theorem InL.below(h:InL W2 bx f0 wr ur ud rs zs ds)(k:Below wr.heap.size wr w5):InL W2 bx f0 w5 ur ud rs zs ds:=by
 have hz:=h.size;refine⟨k.os.trans h.os,k.tape.trans h.tape,k.output.trans h.output,Nat.le_trans hz k.size,fun q h1 h2=>(k.block q oM).trans (h.fr q h1 h2),h.box.of_block (k.block _ h.box.lt),Y6 h.ownR (fun g e=>k.block g (h.ownR.lt g e).2),h.len,fun i hi=>?_,Y6 h.ownD (fun g e=>k.block g (h.ownD.lt g e).2),h.ne⟩;obtain⟨a',c',e,hp⟩:=h.rows i hi;exact⟨a',c',e,hp.keep (fun b hb _=>k.block b hb) k.size⟩
theorem InL.pushR{a5:Option Addr}{c5:Nat}{ys:List Int}(h:InL W2 bx f0 wr ur ud rs zs ds)(hx:bx<W2.heap.size){B0:Nat}(hB0:W2.heap.size<=B0)(hB1:∀g,ur.ownBlock=some g->g<B0)(hB2:∀g,ud.ownBlock=some g->g<B0)(hi5:Xf wr B0 wr.heap.size a5 ys)(hg:wr.grownBy w6 ur.ownBlock)(ho:w6.ownsRow W2.heap.size 78 1 ur' (rs.length+1) (rs++[.slice a5 ys.length c5]))(hat:ur'.ownBlock=ur.ownBlock\/ur'.ownBlock=some wr.heap.size) :
 InL W2 bx f0 (w6.setCell ⟨bx,3,none⟩ ur') ur' ud (rs++[.slice a5 ys.length c5]) (zs++[ys]) ds:=by
 have hz:=h.size;have hz6:=hg.size;have hnb:∀q,q<W2.heap.size->some q≠ur.ownBlock:=fun q hq e=>by have:=(h.ownR.lt q e.symm).1;omega
 have hnew:∀b,b<wr.heap.size->some b≠ur.ownBlock->some b≠ur'.ownBlock:=fun b hb h1 e=>by
  rcases hat with k | k
  ·exact h1 (by rw[<-k];exact e)
  ·rw[k]at e;injection e with e;omega
 have keep:∀b,b<wr.heap.size->b≠bx->some b≠ur.ownBlock->(w6.setCell ⟨bx,3,none⟩ ur').heap[b]?=wr.heap[b]?:=fun b h1 h2 h3=>(Below.heap_setCell _ _ _ _ h2).trans (hg.block b h1 h3)
 refine⟨hg.os.trans h.os,hg.tape.trans h.tape,hg.output.trans h.output,by rw[Xe];omega,fun q h1 h2=>(keep q oM h2 (hnb q h1)).trans (h.fr q h1 h2),((h.box.of_block (hg.block bx oM (hnb _ hx))).set 3 ur').congr (fun i _=>by by_cases e:i=3<;>simp[e]),?_,by simp[h.len],fun i hi=>?_,?_,fun g e=>?_⟩
 ·rw[List.length_append]
  exact ownsRow_setCell_below ho hx _
 ·by_cases e:i<zs.length
  ·obtain⟨a',c',e1,hp⟩:=h.rows i e
   refine⟨a',c',?_,?_⟩
   ·rw[List.getElem?_append_left (by rw[h.len];exact e),List.getElem_append_left e];exact e1
   ·rw[List.getElem_append_left e]
    refine(hp.mono (Q:=fun b=>W2.heap.size<=b/\some b≠ur.ownBlock/\some b≠ur'.ownBlock/\some b≠ud.ownBlock) (fun b hb q=>⟨q.1,q.2.1,hnew b hb q.2.1,q.2.2⟩)).keep (fun b hb q=>keep b hb oM q.2.1) (by rw[Xe];omega) |>.mono (fun b _ q=>⟨q.1,q.2.2.1,q.2.2.2⟩)
  ·have e':i=zs.length:=by simp at hi;omega
   subst e';refine⟨a5,c5,?_,?_⟩
   ·rw[List.getElem?_append_right (by rw[h.len];exact Nat.le_refl _),h.len];simp
   ·rw[List.getElem_append_right (Nat.le_refl _)]
    simp only[Nat.sub_self,List.getElem_cons_zero];have hp:Yj wr (fun b=>B0<=b) a5 ys:=Yj.of_at hi5 (Nat.le_refl _) (fun b h1 _=>h1);have hp2:=hp.mono (Q:=fun b=>W2.heap.size<=b/\some b≠ur'.ownBlock/\some b≠ud.ownBlock/\some b≠ur.ownBlock) (fun b hb q=>⟨oM,hnew b hb (fun e=>by have:=hB1 b e.symm;omega),fun e=>by have:=hB2 b e.symm;omega,fun e=>by have:=hB1 b e.symm;omega⟩);exact(hp2.keep (w':=w6.setCell ⟨bx,3,none⟩ ur') (fun b hb q=>keep b hb oM q.2.2.2) (by rw[Xe];omega)).mono (fun b _ q=>⟨q.1,q.2.1,q.2.2.1⟩)
 ·refine Y6 h.ownD (fun g e=>keep g (h.ownD.lt g e).2 (by have:=(h.ownD.lt g e).1;omega) (fun e2=>h.ne g e2.symm e))
 ·rcases hat with k | k
  ·rw[k]at e;exact h.ne g e
  ·rw[k]at e
   injection e with e;intro e2;have:=(h.ownD.lt g e2).2;omega
theorem InL.pushD{x:Int}(h:InL W2 bx f0 wr ur ud rs zs ds)(hx:bx<W2.heap.size)(hg:wr.grownBy w6 ud.ownBlock)(ho:w6.ownsRow W2.heap.size 2 1 ud' (ds.length+1) (ds.map (Value.int .i64)++[.int .i64 x]))(hat:ud'.ownBlock=ud.ownBlock\/ud'.ownBlock=some wr.heap.size) :
 InL W2 bx f0 (w6.setCell ⟨bx,4,none⟩ ud') ur ud' rs zs (ds++[x]):=by
 have hz:=h.size;have hz6:=hg.size;have hnb:∀q,q<W2.heap.size->some q≠ud.ownBlock:=fun q hq e=>by have:=(h.ownD.lt q e.symm).1;omega
 have hnew:∀b,b<wr.heap.size->some b≠ud.ownBlock->some b≠ud'.ownBlock:=fun b hb h1 e=>by
  rcases hat with k | k
  ·exact h1 (by rw[<-k];exact e)
  ·rw[k]at e;injection e with e;omega
 have keep:∀b,b<wr.heap.size->b≠bx->some b≠ud.ownBlock->(w6.setCell ⟨bx,4,none⟩ ud').heap[b]?=wr.heap[b]?:=fun b h1 h2 h3=>(Below.heap_setCell _ _ _ _ h2).trans (hg.block b h1 h3)
 refine⟨hg.os.trans h.os,hg.tape.trans h.tape,hg.output.trans h.output,by rw[Xe];omega,fun q h1 h2=>(keep q oM h2 (hnb q h1)).trans (h.fr q h1 h2),((h.box.of_block (hg.block bx oM (hnb _ hx))).set 4 ud').congr (fun i _=>by by_cases e:i=4<;>simp[e]),Y6 h.ownR (fun g e=>keep g (h.ownR.lt g e).2 (by have:=(h.ownR.lt g e).1;omega) (fun e2=>h.ne g e e2.symm)),h.len,fun i hi=>?_,?_,fun g e e2=>?_⟩
 ·obtain⟨a',c',e1,hp⟩:=h.rows i hi
  refine⟨a',c',e1,?_⟩;have hp2:=hp.mono (Q:=fun b=>W2.heap.size<=b/\some b≠ur.ownBlock/\some b≠ud'.ownBlock/\some b≠ud.ownBlock) (fun b hb q=>⟨q.1,q.2.1,hnew b hb q.2.2,q.2.2⟩);exact(hp2.keep (w':=w6.setCell ⟨bx,4,none⟩ ud') (fun b hb q=>keep b hb oM q.2.2.2) (by rw[Xe];omega)).mono (fun b _ q=>⟨q.1,q.2.1,q.2.2.1⟩)
 ·rw[Yo,List.length_append]
  exact ownsRow_setCell_below ho hx _
 ·have hl:=(h.ownR.lt g e).2
  exact hnew g hl (fun e3=>h.ne g e e3.symm) e2.symm
theorem InL.fin(h:InL W2 bx f0 wr ur ud rs zs ds):(∃a c,ur=.slice a zs.length c/\KQ wr (fun b=>W2.heap.size<=b) a zs)/\∃a c,ud=.slice a ds.length c/\Yj wr (fun b=>W2.heap.size<=b) a ds:=by
 refine⟨?_,?_⟩
 ·rcases XU h.ownR with⟨e1,e2,_⟩ | ⟨g,c,e1,hg,_⟩
  ·have hz:zs.length=0:=by rw[<-h.len];exact e2
   exact⟨none,0,by rw[e1,hz],fun i hi=>absurd hi oM⟩
  ·refine⟨_,c,by rw[e1,h.len],fun i hi=>?_⟩
   obtain⟨a',c',e3,hp⟩:=h.rows i hi;refine⟨g,0,rfl,hg,a',c',?_,hp.mono (fun b _ q=>q.1)⟩;have:=h.ownR.cells (g:=g) (by rw[e1];rfl) i _ e3;rw[Nat.zero_add];by_cases e4:i=0
   ·subst e4;simpa [Addr.add]using this
   ·simpa [Addr.add,e4]using this
 ·obtain⟨a,c,e,hi⟩:=Xl h.ownD
  exact⟨a,c,e,Yj.of_at hi (Nat.le_refl _) (fun b h1 _=>h1)⟩
end
theorem ZcH(g m:Nat):(⟨g,0,none⟩:Addr).add m=⟨g,m,none⟩:=by by_cases e:m=0<;>simp[Addr.add,e]
structure LsI(w:World)(V:Nat)(a:Option Addr)(n c:Nat)(xs:List Xh)(wr:World)(u:Value)(k:Nat)(cs:List Value):Prop where
 low:Below w.heap.size w wr
 sz:w.heap.size+2<=wr.heap.size
 f0:wr.cell? ⟨w.heap.size,0,none⟩=some (.int .i64 (V:Int))
 f1:wr.cell? ⟨w.heap.size,1,none⟩=some (.slice a n c)
 own:wr.ownsRow (w.heap.size+1) 176 6 u k cs
 fa:∀i (h:i<xs.length),i<k->UO wr (fun b=>w.heap.size+2<=b/\some b≠u.ownBlock) (fun j=>cs.getD (i*6+j) (.slice none 0 0)) xs[i] (XG xs i)
theorem LsI.next{w:World}{V:Nat}{a:Option Addr}{n c:Nat}{xs:List Xh}{wr W3 w4:World}{u u':Value}{k:Nat}{cs:List Value}{f:Nat->Value}(h:LsI w V a n c xs wr u k cs)(hkx:k<xs.length)(k3:Below wr.heap.size wr W3)(hf:UO W3 (fun b=>wr.heap.size<=b) f xs[k] (XG xs k))(hg:W3.grownBy w4 u.ownBlock)(ho:w4.ownsRow (w.heap.size+1) 176 6 u' (k+1) (cs++[f 0,f 1,f 2,f 3,f 4,f 5]))(hat:u'.ownBlock=u.ownBlock\/u'.ownBlock=some W3.heap.size) :
 LsI w V a n c xs w4 u' (k+1) (cs++[f 0,f 1,f 2,f 3,f 4,f 5]):=by
 have hz:=h.sz;have hz3:=k3.size;have hz4:=hg.size;have hwz:=h.low.size;have hul:∀g,u.ownBlock=some g->w.heap.size+1<=g/\g<wr.heap.size:=fun g e=>h.own.lt g e
 have hcl:cs.length=k*6:=h.own.1;have lo:∀q,q<=w.heap.size->w4.heap[q]?=wr.heap[q]?:=fun q hq=>(hg.block q oM (fun e=>by have:=hul q e.symm;omega)).trans (k3.block q oM)
 refine⟨⟨hg.os.trans (k3.os.trans h.low.os),hg.tape.trans (k3.tape.trans h.low.tape),hg.output.trans (k3.output.trans h.low.output),oM,fun q hq=>(lo q oM).trans (h.low.block q hq)⟩,oM,(Xc (lo _ (Nat.le_refl _))).trans h.f0,(Xc (lo _ (Nat.le_refl _))).trans h.f1,ho,fun i hi hik=>?_⟩;have hnew:∀b,b<W3.heap.size->some b≠u.ownBlock->some b≠u'.ownBlock:=fun b hb h1 e=>by
  rcases hat with q | q
  ·exact h1 (by rw[<-q];exact e)
  ·rw[q]at e;injection e with e;omega
 by_cases e:i=k
 ·subst e
  have h2:=hf.mono (Q:=fun b=>(w.heap.size+2<=b/\some b≠u'.ownBlock)/\some b≠u.ownBlock) (fun b hb q=>⟨⟨oM,hnew b hb (fun e=>by have:=hul b e.symm;omega)⟩,fun e=>by have:=hul b e.symm;omega⟩);have h3:=(h2.keep (w':=w4) (fun b hb q=>hg.block b hb q.2) hz4).mono (Q:=fun b=>w.heap.size+2<=b/\some b≠u'.ownBlock) (fun b _ q=>q.1);have eg:∀j,j<6->(cs++[f 0,f 1,f 2,f 3,f 4,f 5]).getD (i*6+j) (.slice none 0 0)=f j:=fun j hj=>by
   rw[List.getD_eq_getElem?_getD,List.getElem?_append_right oM,hcl,Nat.add_sub_cancel_left]
   match j,hj with
   | 0,_=>rfl
   | 1,_=>rfl
   | 2,_=>rfl
   | 3,_=>rfl
   | 4,_=>rfl
   | 5,_=>rfl
  obtain⟨h0,h1,h2',h3',h4,h5⟩:=h3;exact⟨by rw[eg 0 dC];exact h0,by rw[eg 1 dC];exact h1,by rw[eg 2 dC];exact h2',by rw[eg 3 dC];exact h3',by rw[eg 4 dC];exact h4,by rw[eg 5 dC];exact h5⟩
 ·have h1:=h.fa i hi oM
  have h2:=h1.keep (w':=W3) (fun b hb _=>k3.block b hb) hz3;have h2b:=h2.mono (Q:=fun b=>(w.heap.size+2<=b/\some b≠u'.ownBlock)/\some b≠u.ownBlock) (fun b hb q=>⟨⟨q.1,hnew b hb q.2⟩,q.2⟩);have h3:=(h2b.keep (w':=w4) (fun b hb q=>hg.block b hb q.2) hz4).mono (Q:=fun b=>w.heap.size+2<=b/\some b≠u'.ownBlock) (fun b _ q=>q.1);have eg:∀j,j<6->(cs++[f 0,f 1,f 2,f 3,f 4,f 5]).getD (i*6+j) (.slice none 0 0)=cs.getD (i*6+j) (.slice none 0 0):=fun j hj=>by
   rw[List.getD_eq_getElem?_getD,List.getD_eq_getElem?_getD,List.getElem?_append_left oM]
  obtain⟨h0,h1',h2',h3',h4,h5⟩:=h3;exact⟨by rw[eg 0 dC];exact h0,by rw[eg 1 dC];exact h1',by rw[eg 2 dC];exact h2',by rw[eg 3 dC];exact h3',by rw[eg 4 dC];exact h4,by rw[eg 5 dC];exact h5⟩
theorem ZiA{w:World}{L B:Nat}{ad:Addr}{xs:List Int}(h:Xf w L B (some ad) xs):∀(j:Nat)(u:Value),(xs.map (Value.int .i64))[j]?=some u->w.cell? (ad.add j)=some u:=fun j u hj=>by
 have hl:j<xs.length:=by have:=(List.getElem?_eq_some_iff.1 hj).1;simpa using this
 obtain⟨b,o,e,_,hc⟩:=h j hl;injection e with e;subst e;have hu:Value.int .i64 xs[j]=u:=by simpa [hl]using hj
 rw[<-hu,<-hc];by_cases e:j=0<;>simp[Addr.add,e]
theorem ZaR{V:Nat}{xs:List Xh}(ho:Jd V xs)(p t:Int):(edgeU xs p t).length<=4000000:=by
 unfold edgeU;split
 ·simp
 ·rename_i x hx
  split
  ·simp
  ·have h1:=ZbP (predsFrom xs 0 t) x.phis p (predsFrom xs 0 t).length
   have h2:=Yl t xs 0;have h3:=ho.okf.n2;have h4:=(ho.lens x (List.mem_of_getElem? hx)).2;exact Nat.le_trans h1 (Nat.le_trans (Nat.mul_le_mul (show(predsFrom xs 0 t).length<=1000 by omega) h4) dC)
theorem UE{V:Nat}{xs:List Xh}(ho:Jd V xs)(p:Int):∀l:List Int,(l.flatMap (edgeU xs p)).length<=l.length*4000000
 | []=>sP
 | t::l=>by
  have h1:=UE ho p l;have h2:=ZaR ho p t;rw[List.flatMap_cons,List.length_append,List.length_cons];omega
theorem ZfT{xs:List Xh}{p:Int}{l:List Int}{j:Nat}(h:j<l.length):(l.take (j+1)).flatMap (edgeU xs p)=(l.take j).flatMap (edgeU xs p)++edgeU xs p l[j]:=by
 rw[List.take_succ_eq_append_getElem h,List.flatMap_append];simp
structure FcA(wr Y:World)(bx:Nat)(X:Xh)(f0:Nat->Value):Prop where
 low:Below wr.heap.size wr Y
 b1:wr.heap.size<=bx
 box:Y.rowIs bx 176 6 f0
 n2:f0 2=.slice none 0 0
 n3:f0 3=.slice none 0 0
 n4:f0 4=.slice none 0 0
 e0:∃a c,f0 0=.slice a X.term.targets.length c/\Yj Y (fun b=>wr.heap.size<=b/\b≠bx) a X.term.targets
 e1:∃a c,f0 1=.slice a X.phis.length c/\Yj Y (fun b=>wr.heap.size<=b/\b≠bx) a (X.phis.map Ph.dst)
 e5:∃a c,f0 5=.slice a (rdT X.term).length c/\Yj Y (fun b=>wr.heap.size<=b/\b≠bx) a (rdT X.term)
def Zlm(vT vP vR:Value)(i:Nat):Value:=if i=0 then vT else if i=1 then vP else if i=5 then vR else .slice none 0 0
theorem ZbQ{wr Z:World}{bx:Nat}{X:Xh}{aT aP aR:Option Addr}{cT cP cR lT hT lP hP lR hR:Nat}(hb:Below wr.heap.size wr Z)(b1:wr.heap.size<=bx)(BX:Z.rowIs bx 176 6 (fun _=>.slice none 0 0))(iT:Xf Z lT hT aT X.term.targets)(iP:Xf Z lP hP aP (X.phis.map Ph.dst))(iR:Xf Z lR hR aR (rdT X.term))
 (kT:wr.heap.size<=lT/\hT<=Z.heap.size/\¬(lT<=bx/\bx<hT)) (kP:wr.heap.size<=lP/\hP<=Z.heap.size/\¬(lP<=bx/\bx<hP)) (kR:wr.heap.size<=lR/\hR<=Z.heap.size/\¬(lR<=bx/\bx<hR)) :
 FcA wr ((((((Z.setCell ⟨bx,0,none⟩ (.slice aT X.term.targets.length cT)).setCell ⟨bx,1,none⟩ (.slice aP X.phis.length cP)).setCell ⟨bx,2,none⟩ (.slice none 0 0)).setCell ⟨bx,3,none⟩ (.slice none 0 0)).setCell ⟨bx,4,none⟩ (.slice none 0 0)).setCell ⟨bx,5,none⟩ (.slice aR (rdT X.term).length cR)) bx X (Zlm (.slice aT X.term.targets.length cT) (.slice aP X.phis.length cP) (.slice aR (rdT X.term).length cR)):=by
 have fr:∀q,q≠bx->((((((Z.setCell ⟨bx,0,none⟩ (.slice aT X.term.targets.length cT)).setCell ⟨bx,1,none⟩ (.slice aP X.phis.length cP)).setCell ⟨bx,2,none⟩ (.slice none 0 0)).setCell ⟨bx,3,none⟩ (.slice none 0 0)).setCell ⟨bx,4,none⟩ (.slice none 0 0)).setCell ⟨bx,5,none⟩ (.slice aR (rdT X.term).length cR)).heap[q]?=Z.heap[q]?:=fun q h=>(Below.heap_setCell _ _ _ _ h).trans ((Below.heap_setCell _ _ _ _ h).trans ((Below.heap_setCell _ _ _ _ h).trans ((Below.heap_setCell _ _ _ _ h).trans ((Below.heap_setCell _ _ _ _ h).trans (Below.heap_setCell _ _ _ _ h)))))
 have hsz:((((((Z.setCell ⟨bx,0,none⟩ (.slice aT X.term.targets.length cT)).setCell ⟨bx,1,none⟩ (.slice aP X.phis.length cP)).setCell ⟨bx,2,none⟩ (.slice none 0 0)).setCell ⟨bx,3,none⟩ (.slice none 0 0)).setCell ⟨bx,4,none⟩ (.slice none 0 0)).setCell ⟨bx,5,none⟩ (.slice aR (rdT X.term).length cR)).heap.size=Z.heap.size:=by simp only[Xe]
 have hbx:=((((((BX.set 0 (.slice aT X.term.targets.length cT)).set 1 (.slice aP X.phis.length cP)).set 2 (.slice none 0 0)).set 3 (.slice none 0 0)).set 4 (.slice none 0 0)).set 5 (.slice aR (rdT X.term).length cR));refine⟨((((((hb.setCell b1 _).setCell b1 _).setCell b1 _).setCell b1 _).setCell b1 _).setCell b1 _),b1,hbx.congr (fun i hi=>?_),rfl,rfl,rfl,⟨aT,cT,rfl,?_⟩,⟨aP,cP,rfl,?_⟩,⟨aR,cR,rfl,?_⟩⟩
 ·unfold Zlm
  match i,hi with
  | 0,_=>rfl
  | 1,_=>rfl
  | 2,_=>rfl
  | 3,_=>rfl
  | 4,_=>rfl
  | 5,_=>rfl
 ·exact(Yj.of_at iT kT.2.1 (P:=fun b=>wr.heap.size<=b/\b≠bx) (fun b h1 h2=>⟨oM,fun e=>kT.2.2 oM⟩)).keep (fun b _ q=>fr b q.2) (by rw[hsz];exact Nat.le_refl _)
 ·exact(Yj.of_at iP kP.2.1 (P:=fun b=>wr.heap.size<=b/\b≠bx) (fun b h1 h2=>⟨oM,fun e=>kP.2.2 oM⟩)).keep (fun b _ q=>fr b q.2) (by rw[hsz];exact Nat.le_refl _)
 ·exact(Yj.of_at iR kR.2.1 (P:=fun b=>wr.heap.size<=b/\b≠bx) (fun b h1 h2=>⟨oM,fun e=>kR.2.2 oM⟩)).keep (fun b _ q=>fr b q.2) (by rw[hsz];exact Nat.le_refl _)
def ZkS(v0 v1 v2 v3 v4 v5:Value):Nat->Value
 | 0=>v0
 | 1=>v1
 | 2=>v2
 | 3=>v3
 | 4=>v4
 | _=>v5
def Y5(w:World)(a:Option Addr)(xs:List Xh):Prop:=∀i (h:i<xs.length),∃b o us,a=some ⟨b,o,none⟩/\b<w.heap.size/\(∀j,j<6->w.cell? ⟨b,o+i*6+j,none⟩=some (us j))/\UO w (fun _=>True) us xs[i] (XG xs i)
theorem Y5.keep{w w':World}{a:Option Addr}{xs:List Xh}(h:Y5 w a xs)(k:Below w.heap.size w w'):Y5 w' a xs:=fun i hi=>by
 obtain⟨b,o,us,e,hb,hc,hf⟩:=h i hi;exact⟨b,o,us,e,Nat.lt_of_lt_of_le hb k.size,fun j hj=>(Xc (k.block b hb)).trans (hc j hj),hf.keep (fun q hq _=>k.block q hq) k.size⟩
def VH(w:World)(base:Nat)(a:Option Addr)(xs:List Xh):Prop:=∀i (h:i<xs.length),∃b o us,a=some ⟨b,o,none⟩/\(base<=b/\b<w.heap.size)/\(∀j,j<6->w.cell? ⟨b,o+i*6+j,none⟩=some (us j))/\UO w (fun q=>base<=q) us xs[i] (XG xs i)
theorem VH.at_{w:World}{base:Nat}{a:Option Addr}{xs:List Xh}(h:VH w base a xs):Y5 w a xs:=fun i hi=>by
 obtain⟨b,o,us,e,hb,hc,hf⟩:=h i hi;exact⟨b,o,us,e,hb.2,hc,hf.mono (fun _ _ _=>trivial)⟩
theorem LsI.fin{w:World}{V:Nat}{a:Option Addr}{n c:Nat}{xs:List Xh}{wr:World}{u:Value}{cs:List Value}(h:LsI w V a n c xs wr u xs.length cs):∃a' c',u=.slice a' xs.length c'/\VH wr w.heap.size a' xs:=by
 rcases XU h.own with⟨e1,e2,_⟩ | ⟨g,c',e1,hg,_⟩
 ·exact⟨none,0,by rw[e1,e2],fun i hi=>absurd hi oM⟩
 ·have hcl:cs.length=xs.length*6:=h.own.1
  refine⟨_,c',e1,fun i hi=>⟨g,0,fun j=>cs.getD (i*6+j) (.slice none 0 0),rfl,⟨by have:=hg.1;omega,hg.2⟩,fun j hj=>?_,(h.fa i hi hi).mono (fun q _ hq=>by have:=hq.1;omega)⟩⟩;have hlt:i*6+j<cs.length:=oM;have:=h.own.cells (g:=g) (by rw[e1];rfl) (i*6+j) (cs[i*6+j]) (List.getElem?_eq_getElem hlt);show wr.cell? ⟨g,0+i*6+j,none⟩=some (cs.getD (i*6+j) (.slice none 0 0));rw[Nat.zero_add,List.getD_eq_getElem?_getD,List.getElem?_eq_getElem hlt];rw[ZcH]at this;exact this
end Go.Proofs.YtlmgmkmomaileaaGreatDoor
namespace Go.Proofs.YtlmgmkmomaileaaGreatDoor
set_option maxHeartbeats 2000000
set_option maxRecDepth 100000
open Go.RowKit
theorem Za8(a:Option Addr)(n c:Nat)(x:Int)(xs:List Int)(L B:Nat)(w:World)(ha:Hid (Xf w L B a xs))(hx:Hid (n=xs.length))(hn:n<=100000000) :
 Calls Tryz.prog 88 #[.slice a n c,.int .i64 x] w fun e w'=>e=.returned (.bool (hasI xs x))/\w'=w:=by
 go_enter Tryz.func88,Tryz.ntmps88
 go_wp2
 go_loop [5] (fun i=>∃k:Nat,k<=n/\i=.int .i64 k/\Hid (∀j (h:j<xs.length),j<k->xs[j]≠x)) (fun i=>n-(intOf i).toNat)
 case atStart=>exact⟨0,Nat.zero_le _,rfl,fun j hj h=>absurd h oM⟩
 case round =>
  obtain⟨k,hk,rfl,hno⟩:=hrel;by_cases hlt:k<n
  ·have hkx:k<xs.length:=by have:=hx.out;omega
   obtain⟨b,o,rfl,_,hc⟩:=ha.out k hkx;by_cases he:xs[k]=x
   ·have hb:(xs[k]==x)=true:=by simp[he]
    have HE:=Xa he;clear he;go_wp2
    go_ret
    exact⟨Xj (by unfold hasI;rw[eq_comm,List.contains_iff_mem,<-HE.out];exact List.getElem_mem hkx),rfl⟩
   ·have hb:(xs[k]==x)=false:=by simp[he]
    have HE:=Xa he;clear he;go_wp2
    go_round
    case rel=>exact⟨k+1,oM,gM,fun j hj h=>if e:j=k then by subst e;exact HE.out else hno.out j hj oM⟩
    case measure=>simp[intOf];omega
  ·go_wp2
   go_ret
   exact⟨Xj (by
    rw[eq_comm,Bool.eq_false_iff];intro hc;obtain⟨j,hj,e⟩:=List.getElem_of_mem (List.contains_iff_mem.1 (show xs.contains x=true from hc));exact hno.out j hj (by have:=hx.out;omega) e),rfl⟩
theorem ZcN(x:Xh)(E:List Int)(us:Nat->Value)(v:Int)(w:World)(h:Hid (UO w (fun _=>True) us x E))(hln:Hid (x.instrs.length<=4000))(hE:Hid (E.length<=8000000))(u0 u1 u2 u3 u4 u5:Value)(h2:us 2=u2)(h3:us 3=u3)(h4:us 4=u4)(h5:us 5=u5) :
 Calls Tryz.prog 91 #[.agg #[u0,u1,u2,u3,u4,u5],.int .i64 v] w fun e w'=>e=.returned (.int .i64 (bareM x E v:Nat))/\Below w.heap.size w w':=by
 obtain⟨a2,c2,e2,i2⟩:=h.e2;obtain⟨a3,c3,e3,i3⟩:=h.e3;obtain⟨a4,c4,e4,i4⟩:=h.e4;obtain⟨a5,c5,e5,i5⟩:=h.e5;rw[e2]at h2;rw[e3]at h3;rw[e4]at h4;rw[e5]at h5;subst h2 h3 h4 h5;have H2:=Xa i2;have H3:=Xa i3;have H4:=Xa i4;have H5:=Xa i5;have HL3:Hid ((ZQ x).length=x.instrs.length):=Xa (by unfold ZQ;simp);have HL4:Hid ((Zk x).length=x.instrs.length):=Xa (by unfold Zk;simp);obtain⟨n3,hn3⟩:∃m,m=(ZQ x).length:=⟨_,rfl⟩;obtain⟨n4,hn4⟩:∃m,m=(Zk x).length:=⟨_,rfl⟩;obtain⟨n5,hn5⟩:∃m,m=(rdT x.term).length:=⟨_,rfl⟩;obtain⟨n2,hn2⟩:∃m,m=E.length:=⟨_,rfl⟩;rw[<-hn3,<-hn4,<-hn5,<-hn2];have h34:n3=n4:=by rw[hn3,hn4,HL3.out,HL4.out]
 subst h34;have h4000:n3<=4000:=by rw[hn3,HL3.out];exact hln.out
 have hn5':n5<=1:=by rw[hn5];unfold rdT;split<;>simp
 have hn2':n2<=8000000:=by rw[hn2];exact hE.out
 have HN3:=Xa hn3;have HN4:=Xa hn4;have HN5:=Xa hn5;have HN2:=Xa hn2;clear hn3 hn4 hn5 hn2 e2 e3 e4 e5 i2 i3 i4 i5;have HBB:Hid (bareM x E v=XT v (hasI (rdT x.term) v||hasI E v) x.instrs):=Xa rfl;generalize bareM x E v=bm at *;have hb0:Below w.heap.size w (w.alloc (.cells #[u0,u1,.slice a2 n2 c2,.slice a3 n3 c3,.slice a4 n3 c4,.slice a5 n5 c5] 176)):=Xb (Below.refl _ _) _;have hc:∀q' v',#[u0,u1,Value.slice a2 n2 c2,.slice a3 n3 c3,.slice a4 n3 c4,.slice a5 n5 c5][q']?=some v'->(w.alloc (.cells #[u0,u1,.slice a2 n2 c2,.slice a3 n3 c3,.slice a4 n3 c4,.slice a5 n5 c5] 176)).cell? ⟨w.heap.size,q',none⟩=some v':=fun q' v' h=>by
  rw[World.cell?_alloc_new];exact h
 go_enter Tryz.func91,Tryz.ntmps91
 go_wp2_with fail
 have HB0:=Xa hb0;have HC:=Xa hc;generalize w.alloc (.cells #[u0,u1,.slice a2 n2 c2,.slice a3 n3 c3,.slice a4 n3 c4,.slice a5 n5 c5] 176)=W at *;have k2:W.cell? ⟨w.heap.size,2,none⟩=some (.slice a2 n2 c2):=HC.out 2 _ rfl;have k3:W.cell? ⟨w.heap.size,3,none⟩=some (.slice a3 n3 c3):=HC.out 3 _ rfl;have k4:W.cell? ⟨w.heap.size,4,none⟩=some (.slice a4 n3 c4):=HC.out 4 _ rfl;have k5:W.cell? ⟨w.heap.size,5,none⟩=some (.slice a5 n5 c5):=HC.out 5 _ rfl;have hzW:=hb0.size;have H2W:Hid (Xf W 0 w.heap.size a2 E):=Xa (H2.at_.keep hb0);have H5W:Hid (Xf W 0 w.heap.size a5 (rdT x.term)):=Xa (H5.at_.keep hb0);have HHE:=Xa (Za8 a2 n2 c2 v E 0 w.heap.size W H2W HN2 oM);have HHT:=Xa (Y7 a5 n5 c5 v (rdT x.term) 0 w.heap.size W H5W HN5 oM);clear hb0 hc HC
 go_loop [5] (fun i=>∃k:Nat,k<=n3/\i=.int .i64 k/\Hid (bm=XT v (hasI (rdT x.term) v||hasI E v) (x.instrs.drop k))) (fun i=>n3-(intOf i).toNat)
 case atStart=>exact⟨0,Nat.zero_le _,rfl,Xa (by rw[HBB.out];rfl)⟩
 case round =>
  obtain⟨k,hk,rfl,HF⟩:=hrel;by_cases hlt:k<n3
  ·have hkx:k<x.instrs.length:=by rw[<-HL3.out,<-HN3.out];exact hlt
   have hk3:k<(ZQ x).length:=by rw[<-HN3.out];exact hlt
   have hk4:k<(Zk x).length:=by rw[<-HN4.out];exact hlt
   obtain⟨b3,o3,rfl,⟨_,hb3⟩,ar,cr,hcr,hir⟩:=H3.out k hk3;obtain⟨b4,o4,rfl,⟨_,hb4⟩,hcd⟩:=H4.out k hk4;have er:(ZQ x)[k]=rdI x.instrs[k]:=by simp[ZQ]
   have ed:(Zk x)[k]=defI x.instrs[k]:=by simp[Zk]
   rw[er]at hcr hir;rw[ed]at hcd;have l3:=(HB0.cell (p:=⟨b3,o3+k,none⟩) hb3).trans hcr;have l4:=(HB0.cell (p:=⟨b4,o4+k,none⟩) hb4).trans hcd;have HFD:Hid (XT v (hasI (rdT x.term) v||hasI E v) (x.instrs.drop k)=if hasI (rdI x.instrs[k]) v then 1 else if defI x.instrs[k]=v then 2 else XT v (hasI (rdT x.term) v||hasI E v) (x.instrs.drop (k+1))):=Xa (by rw[List.drop_eq_getElem_cons hkx];rfl);have HIR:Hid (Xf W 0 w.heap.size ar (rdI x.instrs[k])):=Xa (hir.at_.keep HB0.out);obtain⟨nr,hnr⟩:∃m,m=(rdI x.instrs[k]).length:=⟨_,rfl⟩;rw[<-hnr]at l3;have hnr2:nr<=2:=by rw[hnr];exact VV _
   have HHR:=Xa (Y7 ar nr cr v (rdI x.instrs[k]) 0 w.heap.size W HIR (Xa hnr) oM);clear hcr hcd hir er ed hnr;generalize rdI x.instrs[k]=ri at *;generalize defI x.instrs[k]=df at *
   go_wp2_with fail
   refine HHR.mono ?_;rintro e w3 ⟨rfl,hw3⟩;rw[hw3];clear hw3;cases hh:hasI ri v with
   | true =>
    have HBM:Hid (bm=1):=Xa (by rw[HF.out,HFD.out,hh];rfl);clear hh
    go_wp2_with fail
    go_ret
    exact⟨by rw[HBM.out];rfl,HB0.out⟩
   | false =>
    have HF2:Hid (bm=if df=v then 2 else XT v (hasI (rdT x.term) v||hasI E v) (x.instrs.drop (k+1))):=Xa (by rw[HF.out,HFD.out,hh];rfl);clear hh;by_cases hd:df=v
    ·have HBM:Hid (bm=2):=Xa (by rw[HF2.out,if_pos hd])
     have hdb:(df==v)=true:=by simp[hd]
     clear hd
     go_wp2_with fail
     go_ret
     exact⟨by rw[HBM.out];rfl,HB0.out⟩
    ·have HF3:Hid (bm=XT v (hasI (rdT x.term) v||hasI E v) (x.instrs.drop (k+1))):=Xa (by rw[HF2.out,if_neg hd])
     have hdb:(df==v)=false:=by simp[hd]
     clear hd
     go_wp2_with fail
     go_round
     case rel=>exact⟨k+1,oM,gM,HF3⟩
     case measure=>simp[intOf];omega
  ·have HBM:Hid (bm=if (hasI (rdT x.term) v||hasI E v)then 1 else 0):=Xa (by rw[HF.out,List.drop_eq_nil_of_le (by rw[<-HL3.out,<-HN3.out];omega)];rfl)
   go_wp2_with fail
   refine HHT.mono ?_;rintro e w3 ⟨rfl,hw3⟩;rw[hw3];clear hw3;cases ht:hasI (rdT x.term) v with
   | true =>
    have HB2:Hid (bm=1):=Xa (by rw[HBM.out,ht];rfl);clear ht
    go_wp2_with fail
    go_ret
    exact⟨by rw[HB2.out];rfl,HB0.out⟩
   | false =>
    have HB2:Hid (bm=if hasI E v then 1 else 0):=Xa (by rw[HBM.out,ht];rfl);clear ht
    go_wp2_with fail
    refine HHE.mono ?_;rintro e w4 ⟨rfl,hw4⟩;rw[hw4];clear hw4;cases ht:hasI E v with
    | true =>
     have HB3:Hid (bm=1):=Xa (by rw[HB2.out,ht];rfl);clear ht
     go_wp2_with fail
     go_ret
     exact⟨by rw[HB3.out];rfl,HB0.out⟩
    | false =>
     have HB3:Hid (bm=0):=Xa (by rw[HB2.out,ht];rfl);clear ht
     go_wp2_with fail
     go_ret
     exact⟨by rw[HB3.out];rfl,HB0.out⟩
end Go.Proofs.YtlmgmkmomaileaaGreatDoor
namespace Go.Proofs.YtlmgmkmomaileaaGreatDoor
open Go.RowKit
def phL(xs:List Xh)(b:Nat):List Int:=match xs[b]? with
 | none=>[]
 | some x=>x.phis.map Ph.dst
def rtL(xs:List Xh)(b:Nat):List Int:=match xs[b]? with
 | none=>[]
 | some x=>rdT x.term
def Tt(xs:List Xh)(b:Nat):List Int:=match xs[b]? with
 | none=>[]
 | some x=>Zk x
def rdL(xs:List Xh)(b:Nat):List (List Int):=match xs[b]? with
 | none=>[]
 | some x=>ZQ x
theorem Zbr(xs:List Xh)(b v:Nat):YB xs b v=hasI (phL xs b) (v:Int):=by
 unfold YB phL;cases xs[b]?<;>rfl
structure FcB(W:World)(base:Nat)(xs:List Xh)(b:Nat)(a0:Option Addr)(n0:Nat)(a1:Option Addr)(n1:Nat)(a2:Option Addr)(n2:Nat)(a3:Option Addr)(n3:Nat)(a4:Option Addr)(n4:Nat)(a5:Option Addr)(n5:Nat)(c0 c1 c2 c3 c4 c5:Nat):Prop where
 t:n0=(XV xs b).length/\Xf W 0 base a0 (Xs (XV xs b))
 p:n1=(phL xs b).length/\Xf W 0 base a1 (phL xs b)
 e:n2=(XG xs b).length/\Xf W 0 base a2 (XG xs b)
 r:n3=(rdL xs b).length/\KQ W (fun q=>q<base) a3 (rdL xs b)
 d:n4=(Tt xs b).length/\Xf W 0 base a4 (Tt xs b)
 u:n5=(rtL xs b).length/\Xf W 0 base a5 (rtL xs b)
 bare:∀v:Nat,Calls Tryz.prog 91 #[.agg #[.slice a0 n0 c0,.slice a1 n1 c1,.slice a2 n2 c2,.slice a3 n3 c3,.slice a4 n4 c4,.slice a5 n5 c5],.int .i64 (v:Int)] W fun e w'=>e=.returned (.int .i64 (barB xs b v:Nat))/\Below W.heap.size W w'
theorem Y5.row{V:Nat}{xs:List Xh}(ho:Jd V xs){w W:World}{bf of:Nat}(h:Y5 w (some ⟨bf,of,none⟩) xs)(k:Below w.heap.size w W){b:Nat}(hb:b<xs.length) :
 ∃a0 n0 a1 n1 a2 n2 a3 n3 a4 n4 a5 n5 c0 c1 c2 c3 c4 c5,bf<w.heap.size/\W.cell? ⟨bf,of+b*6,none⟩=some (.slice a0 n0 c0)/\W.cell? ⟨bf,of+b*6+1,none⟩=some (.slice a1 n1 c1)/\W.cell? ⟨bf,of+b*6+2,none⟩=some (.slice a2 n2 c2)/\W.cell? ⟨bf,of+b*6+3,none⟩=some (.slice a3 n3 c3)/\W.cell? ⟨bf,of+b*6+4,none⟩=some (.slice a4 n4 c4)/\W.cell? ⟨bf,of+b*6+5,none⟩=some (.slice a5 n5 c5)/\n0<=2/\n1<=4000/\n2<=8000000/\n4<=4000/\n5<=1/\FcB W w.heap.size xs b a0 n0 a1 n1 a2 n2 a3 n3 a4 n4 a5 n5 c0 c1 c2 c3 c4 c5:=by
 obtain⟨bf',of',us,e,hbf,hus,hfa⟩:=h b hb;injection e with e;injection e with e1 e2;subst e1 e2;have hc:∀j,j<6->W.cell? ⟨bf,of+b*6+j,none⟩=some (us j):=fun j hj=>(k.cell (p:=⟨bf,of+b*6+j,none⟩) hbf).trans (hus j hj)
 have hfW:=hfa.keep (fun q hq _=>k.block q hq) k.size;obtain⟨a0,c0,e0,i0⟩:=hfa.e0;obtain⟨a1,c1,e1,i1⟩:=hfa.e1;obtain⟨a2,c2,e2,i2⟩:=hfa.e2;obtain⟨a3,c3,e3,i3⟩:=hfa.e3;obtain⟨a4,c4,e4,i4⟩:=hfa.e4;obtain⟨a5,c5,e5,i5⟩:=hfa.e5;have x0:=hc 0 dC;have x1:=hc 1 dC;have x2:=hc 2 dC;have x3:=hc 3 dC;have x4:=hc 4 dC;have x5:=hc 5 dC;rw[e0]at x0;rw[e1]at x1;rw[e2]at x2;rw[e3]at x3;rw[e4]at x4;rw[e5]at x5;have hlx:=ho.lens xs[b] (List.getElem_mem hb);have htg:xs[b].term.targets=Xs (XV xs b):=by rw[VC ho.okf hb,UG hb]
 have hel:(XG xs b).length<=8000000:=by
  unfold XG;rw[List.getElem?_eq_getElem hb];have h1:=UE ho ((b:Nat):Int) xs[b].term.targets;have h2:=Ke xs[b].term;simp only;omega
 have hT:(rdT xs[b].term).length<=1:=by unfold rdT;split<;>simp
 have hph:phL xs b=xs[b].phis.map Ph.dst:=by unfold phL;rw[List.getElem?_eq_getElem hb]
 have hrt:rtL xs b=rdT xs[b].term:=by unfold rtL;rw[List.getElem?_eq_getElem hb]
 have hdf:Tt xs b=Zk xs[b]:=by unfold Tt;rw[List.getElem?_eq_getElem hb]
 have hrd:rdL xs b=ZQ xs[b]:=by unfold rdL;rw[List.getElem?_eq_getElem hb]
 have hbb:∀v:Nat,barB xs b v=bareM xs[b] (XG xs b) (v:Int):=fun v=>by unfold barB;rw[List.getElem?_eq_getElem hb]
 refine⟨a0,_,a1,_,a2,_,a3,_,a4,_,a5,_,c0,c1,c2,c3,c4,c5,hbf,x0,x1,x2,x3,x4,x5,Ke _,by rw[List.length_map];exact hlx.2,hel,by unfold Zk;rw[List.length_map];exact hlx.1,hT,⟨⟨by rw[htg];simp[Xs],?_⟩,⟨by rw[hph],?_⟩,⟨rfl,i2.at_.keep k⟩,⟨by rw[hrd],?_⟩,⟨by rw[hdf],?_⟩,⟨by rw[hrt],?_⟩,fun v=>?_⟩⟩
 ·rw[<-htg];exact i0.at_.keep k
 ·rw[hph];exact i1.at_.keep k
 ·rw[hrd]
  intro i hi;obtain⟨b',o',e',hb',a',c',hc',h2'⟩:=i3 i hi;exact⟨b',o',e',⟨hb'.2,Nat.lt_of_lt_of_le hb'.2 k.size⟩,a',c',(k.cell (p:=⟨b',o' + i,none⟩) hb'.2).trans hc',fun j hj=>by
   obtain⟨b2,o2,e2,hb2,hc2⟩:=h2' j hj;exact⟨b2,o2,e2,⟨hb2.2,Nat.lt_of_lt_of_le hb2.2 k.size⟩,(k.cell (p:=⟨b2,o2+j,none⟩) hb2.2).trans hc2⟩⟩
 ·rw[hdf];exact i4.at_.keep k
 ·rw[hrt];exact i5.at_.keep k
 ·rw[hbb]
  exact ZcN xs[b] (XG xs b) us (v:Int) W (Xa hfW) (Xa hlx.1) (Xa hel) _ _ _ _ _ _ e2 e3 e4 e5
def T1(lv:Nat->Bool)(n:Nat):Nat:=(List.range n).countP lv
theorem ZeI(lv:Nat->Bool)(n:Nat):T1 lv n<=n:=Nat.le_trans List.countP_le_length sP
theorem ZaK(lv:Nat->Bool)(n:Nat):T1 lv (n+1)=T1 lv n+(if lv n then 1 else 0):=by
 unfold T1;rw[List.range_succ,List.countP_append];simp[List.countP_cons]
theorem VU{lv lv':Nat->Bool}{n:Nat}(h:∀b,b<n->lv b=lv' b):T1 lv n=T1 lv' n:=by
 unfold T1;exact List.countP_congr (fun x hx=>by rw[h x (List.mem_range.1 hx)])
theorem ZcC{lv:Nat->Bool}{b:Nat}(hl:lv b=false):∀n,b<n->T1 (fun z=>if z=b then true else lv z) n=T1 lv n+1
 | 0,h=>absurd h oM
 | n+1,h=>by
  rw[ZaK,ZaK];by_cases e:b=n
  ·subst e
   rw[VU (lv':=lv) (fun z hz=>by simp[show z≠b by omega])];simp[hl]
  ·rw[ZcC hl n oM]
   have:n≠b:=oM;simp only[this,if_false];omega
theorem Zh6{lv:Nat->Bool}{b n:Nat}(hb:b<n)(h:lv b=true):0<T1 lv n:=by
 unfold T1;exact List.countP_pos_iff.2 ⟨b,List.mem_range.2 hb,h⟩
structure BhI(xs:List Xh)(v n:Nat)(lv0 lv:Nat->Bool)(b:Nat)(gr:Bool):Prop where
 snd:∀z,z<n->lv z=true->Vl xs v z
 here:∀z,z<n->barB xs z v=1->lv z=true
 no:gr=false->(∀z,z<n->lv z=lv0 z)/\∀z,z<b->barB xs z v=0->∀t∈XV xs z,lv t=true->YB xs t v=false->lv z=true
 yes:gr=true->T1 lv0 n<T1 lv n/\0<T1 lv0 n
theorem BhI.start{xs:List Xh}{v n:Nat}{lv:Nat->Bool}(h1:∀z,z<n->lv z=true->Vl xs v z)(h2:∀z,z<n->barB xs z v=1->lv z=true):BhI xs v n lv lv 0 false :=
 ⟨h1,h2,fun _=>⟨fun _ _=>rfl,fun z hz=>absurd hz oM⟩,fun h=>by cases h⟩
theorem BhI.set{xs:List Xh}{v n b t:Nat}{lv0 lv:Nat->Bool}{gr:Bool}(h:BhI xs v n lv0 lv b gr)(hn:n=xs.length)(hb:b<n)(ht:t∈XV xs b)(htn:t<n)(h0:barB xs b v=0)(hl:lv b=false)(h1:lv t=true)(h2:YB xs t v=false):BhI xs v n lv0 (fun z=>if z=b then true else lv z) b true:=by
 refine⟨fun z hz he=>?_,fun z hz he=>?_,fun e=>(by cases e),fun _=>?_⟩
 ·by_cases e:z=b
  ·subst e
   exact Vl.step oM h0 ht h2 (h.snd t htn h1)
  ·simp only[e,if_false]at he
   exact h.snd z hz he
 ·by_cases e:z=b
  ·simp[e]
  ·simp only[e,if_false]
   exact h.here z hz he
 ·rw[ZcC hl n hb]
  cases hg:gr with
  | false =>
   have e:=VU (h.no hg).1;rw[e];refine⟨oM,?_⟩;rw[<-e];exact Zh6 htn h1
  | true =>
   have:=h.yes hg;omega
theorem BhI.next{xs:List Xh}{v n b:Nat}{lv0 lv:Nat->Bool}{gr:Bool}(h:BhI xs v n lv0 lv b gr)(hc:gr=false->barB xs b v=0->∀t∈XV xs b,lv t=true->YB xs t v=false->lv b=true):BhI xs v n lv0 lv (b+1) gr :=
 ⟨h.snd,h.here,fun e=>⟨(h.no e).1,fun z hz=>by
  by_cases e2:z=b
  ·subst e2;exact hc e
  ·exact(h.no e).2 z oM⟩,h.yes⟩
theorem BhI.done{xs:List Xh}{v n:Nat}{lv0 lv:Nat->Bool}(h:BhI xs v n lv0 lv n false)(hn:n=xs.length):∀b,b<n->(lv b=true↔Vl xs v b):=by
 subst hn;exact fun b hb=>Zf5 h.snd h.here (h.no rfl).2 hb
end Go.Proofs.YtlmgmkmomaileaaGreatDoor
