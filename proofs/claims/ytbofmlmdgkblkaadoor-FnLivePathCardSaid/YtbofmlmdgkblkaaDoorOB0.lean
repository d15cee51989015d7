import Derived.Test.YtbofmlmdgkblkaaDoorSA0
namespace Go.Proofs.YtbofmlmdgkblkaaDoor
open Go.RowKit
theorem WL{W:World}{b1 b2 e1 e2 s1 s2 n1 n2:Nat}{v1 v2:Value}{c1 c2:List Value}(h1:W.ownsRow b1 e1 s1 v1 n1 c1)(h2:W.ownsRow b2 e2 s2 v2 n2 c2)(he:e1≠e2):v1.ownBlock=none\/v1.ownBlock≠v2.ownBlock:=by
 rcases h1.2 with⟨q1,_⟩ | ⟨g1,k1,d1,q1,_,r1,_⟩
 ·rw[q1];exact Or.inl rfl
 ·rcases h2.2 with⟨q2,_⟩ | ⟨g2,k2,d2,q2,_,r2,_⟩
  ·rw[q1,q2];exact Or.inr (fun e=>by cases e)
  ·rw[q1,q2]
   refine Or.inr (fun e=>?_);injection e with e;have e:g1=g2:=e;subst e;rw[r1]at r2;injection r2 with r2;injection r2 with _ r3;exact he r3
theorem Zd{W W':World}{b1 e1 s1 n1:Nat}{v1:Value}{c1:List Value}(h:W.ownsRow b1 e1 s1 v1 n1 c1)(k:Below W.heap.size W W'):W'.ownsRow b1 e1 s1 v1 n1 c1:=by
 refine h.kept (row:=none) ⟨k.os,k.tape,k.output,k.size,fun q hq _=>k.block q hq⟩ ?_;cases v1.ownBlock<;>simp
theorem ZdW{W:World}{b1 e1 s1 n1 z:Nat}{v1:Value}{c1:List Value}(h:W.ownsRow b1 e1 s1 v1 n1 c1)(hz:W.heap.size<=z):v1.ownBlock≠some z:=fun e=>by have:=(h.lt z e).2;omega
end Go.Proofs.YtbofmlmdgkblkaaDoor
namespace Go.Proofs.YtbofmlmdgkblkaaDoor
open Go.RowKit
def Wp(s:Bool):Nat:=if s=true then 1 else 0
structure LiG(w0 wr:World)(Fo:Nat)(b:Bool->Nat)(U:Bool->Nat->Value)(P:Bool->Nat->List Int)(X:Bool->Value):Prop where
 os:wr.os=w0.os
 tape:wr.tape=w0.tape
 output:wr.output=w0.output
 size:w0.heap.size<=wr.heap.size
 hF:Fo<w0.heap.size
 fr:∀q,q<w0.heap.size->q≠Fo->wr.heap[q]?=w0.heap[q]?
 box:wr.rowIs Fo 29 2 (fun i=>X (decide (i=1)))
 oo:∀s,wr.ownsRow w0.heap.size 47 1 (X s) (b s) ((List.range (b s)).map (U s))
 ne:∀g,(X false).ownBlock=some g->(X true).ownBlock≠some g
 own:∀s i,i<b s->wr.ownsRow w0.heap.size 2 1 (U s i) (P s i).length ((P s i).map (Value.int .i64))
 dj:∀s i s' j,i<b s->j<b s'->(s,i)≠(s',j)->(U s i).ownBlock=none\/(U s i).ownBlock≠(U s' j).ownBlock
section
variable {w0 wr wr' w5 w8 : World} {Fo : Nat} {b : Bool -> Nat} {U : Bool -> Nat -> Value} {P : Bool -> Nat -> List Int} {X : Bool -> Value}
theorem LiG.cell(h:LiG w0 wr Fo b U P X){q o:Nat}{v:Value}(hq:q≠Fo)(hc:w0.cell? ⟨q,o,none⟩=some v):wr.cell? ⟨q,o,none⟩=some v:=(Xc (h.fr q (World.block_lt_of_cell? w0 _ hc) hq)).trans hc
theorem LiG.xcell(h:LiG w0 wr Fo b U P X)(s:Bool):wr.cell? ⟨Fo,Wp s,none⟩=some (X s):=by
 cases s
 ·exact h.box.cell (i:=0) (by decide)
 ·exact h.box.cell (i:=1) (by decide)
theorem LiG.push(h:LiG w0 wr Fo b U P X){s:Bool}{u x':Value}{ob:Obj}(k:Below wr.heap.size wr w5)(hu:w5.ownsRow wr.heap.size 2 1 u (P s (b s)).length ((P s (b s)).map (Value.int .i64)))(hg:(w5.alloc ob).grownBy w8 (X s).ownBlock)(ho:w8.ownsRow w0.heap.size 47 1 x' (b s+1) ((List.range (b s)).map (U s)++[u]))(hat:x'.ownBlock=(X s).ownBlock\/x'.ownBlock=some (w5.heap.size+1)) :
 LiG w0 (w8.setCell ⟨Fo,Wp s,none⟩ x') Fo (fun s'=>if s'=s then b s+1 else b s') (fun s' i=>if (s',i)=(s,b s)then u else U s' i) P (fun s'=>if s'=s then x' else X s')/\w8.cell? ⟨Fo,Wp s,none⟩=some (X s)/\w8.frozen? ⟨Fo,Wp s,none⟩=false/\(∀q,q<w0.heap.size->q≠Fo->w8.heap[q]?=wr.heap[q]?/\(w8.setCell ⟨Fo,Wp s,none⟩ x').heap[q]?=wr.heap[q]?):=by
 have hsz:=h.size;have hk:=k.size;have hgs:=hg.size;have has:(w5.alloc ob).heap.size=w5.heap.size+1:=World.size_alloc _ _;have hF:=h.hF;have hal:∀q,q<w5.heap.size->(w5.alloc ob).heap[q]?=w5.heap[q]?:=fun q hq=>Below.heap_alloc w5 _ _ hq
 have kA:Below wr.heap.size wr (w5.alloc ob):=⟨k.os,k.tape,k.output,by omega,fun q hq=>(hal q (by omega)).trans (k.block q hq)⟩;have hnX:∀s' q,q<w0.heap.size->(X s').ownBlock≠some q:=fun s' q hq e=>by have:=((h.oo s').lt q e).1;omega
 have hbl:∀q,q<w0.heap.size->w8.heap[q]?=wr.heap[q]?:=fun q hq=>(hg.block q (by omega) (fun e=>hnX s q hq e.symm)).trans (kA.block q (by omega))
 have hset:∀q,q≠Fo->(w8.setCell ⟨Fo,Wp s,none⟩ x').heap[q]?=w8.heap[q]?:=fun q hq=>Below.heap_setCell _ _ _ _ hq
 have hU:∀s' i,i<b s'->(w8.setCell ⟨Fo,Wp s,none⟩ x').ownsRow w0.heap.size 2 1 (U s' i) (P s' i).length ((P s' i).map (Value.int .i64)):=fun s' i hi =>
  ownsRow_setCell_below ((Zd (h.own s' i hi) kA).kept hg (WL (h.own s' i hi) (h.oo s) (by decide))) hF _
 have huA:(w5.alloc ob).ownsRow wr.heap.size 2 1 u (P s (b s)).length ((P s (b s)).map (Value.int .i64)):=hu.alloc ob;have hXA:=Zd (h.oo s) kA;have hu8:(w8.setCell ⟨Fo,Wp s,none⟩ x').ownsRow w0.heap.size 2 1 u (P s (b s)).length ((P s (b s)).map (Value.int .i64)) :=
  ownsRow_setCell_below (YW (huA.kept hg (WL huA hXA (by decide))) (by omega)) hF _
 have huU:∀s' i,i<b s'->u.ownBlock=none\/u.ownBlock≠(U s' i).ownBlock:=fun s' i hi=>by
  cases e:u.ownBlock with
  | none=>exact Or.inl rfl
  | some g =>
   refine Or.inr (fun e2=>?_);have h1:=(hu.lt g e).1;have h2:=((h.own s' i hi).lt g e2.symm).2;omega
 have hX':∀s',s'≠s->(X s').ownBlock=none\/(X s').ownBlock≠(X s).ownBlock:=fun s' hs'=>by
  cases e:(X s').ownBlock with
  | none=>exact Or.inl rfl
  | some g =>
   refine Or.inr (fun e2=>?_);cases s'<;>cases s<;>first | exact hs' rfl | exact h.ne g e e2.symm | exact h.ne g e2.symm e
 refine⟨⟨hg.os.trans (k.os.trans h.os),hg.tape.trans (k.tape.trans h.tape),hg.output.trans (k.output.trans h.output),by rw[Xd];omega,hF,fun q h1 h2=>(hset q h2).trans ((hbl q h1).trans (h.fr q h1 h2)),?_,fun s'=>?_,fun g e=>?_,fun s' i hi=>?_,fun s1 i s2 j hi hj hij=>?_⟩,(Xc (hbl Fo hF)).trans (h.xcell s),(World.frozen?_of_block (hbl Fo hF)).trans (h.box.frozen _),fun q h1 h2=>⟨hbl q h1,(hset q h2).trans (hbl q h1)⟩⟩
 ·refine((h.box.of_block (hbl Fo hF)).set (Wp s) x').congr (fun i hi=>?_)
  have h2:i=0\/i=1:=by omega
  rcases h2 with rfl | rfl<;>cases s<;>simp[Wp]
 ·by_cases e:s'=s
  ·subst e
   simp only[if_true];refine ownsRow_setCell_below ?_ hF _;rw[List.range_succ,List.map_append];have e1:(List.range (b s')).map (fun i=>if (s',i)=(s',b s')then u else U s' i)=(List.range (b s')).map (U s'):=List.map_congr_left (fun i hi=>by
    have:=List.mem_range.1 hi;rw[if_neg (by simp;omega)])
   rw[e1];simpa using ho
  ·simp only[e,if_false]
   have e1:(List.range (b s')).map (fun i=>if (s',i)=(s,b s)then u else U s' i)=(List.range (b s')).map (U s'):=List.map_congr_left (fun i _=>by rw[if_neg (by simp[e])]);rw[e1];exact ownsRow_setCell_below ((Zd (h.oo s') kA).kept hg (hX' s' e)) hF _
 ·have hfr:∀s',(X s').ownBlock≠some (w5.heap.size+1):=fun s'=>ZdW (h.oo s') (by omega)
  cases s with
  | false =>
   simp only[if_true,Bool.true_eq_false,if_false]at e |-;rcases hat with q | q
   ·exact h.ne g (q ▸ e)
   ·rw[q]at e
    injection e with e;rw[<-e];exact hfr true
  | true =>
   simp only[if_true,Bool.false_eq_true,if_false]at e |-;rcases hat with q | q
   ·rw[q];exact h.ne g e
   ·rw[q]
    intro e2;injection e2 with e2;rw[<-e2]at e;exact hfr false e
 ·by_cases e:(s',i)=(s,b s)
  ·have e1:s'=s:=congrArg Prod.fst e
   have e2:i=b s:=congrArg Prod.snd e;subst e1 e2;simp only[if_true];exact hu8
  ·simp only[e,if_false]
   refine hU s' i ?_;by_cases e1:s'=s
   ·subst e1
    simp only[if_true]at hi;have:i≠b s':=fun e3=>e (by rw[e3])
    omega
   ·simpa [e1]using hi
 ·have low:∀s' i,i<(if s'=s then b s+1 else b s')->(s',i)≠(s,b s)->i<b s':=fun s' i hi e=>by
   by_cases e1:s'=s
   ·subst e1
    simp only[if_true]at hi;have:i≠b s':=fun e3=>e (by rw[e3])
    omega
   ·simpa [e1]using hi
  by_cases e1:(s1,i)=(s,b s)
  ·have e2:(s2,j)≠(s,b s):=fun e=>hij (e1.trans e.symm)
   simp only[e1,if_true,e2,if_false];exact huU s2 j (low s2 j hj e2)
  ·simp only[e1,if_false]
   by_cases e2:(s2,j)=(s,b s)
   ·simp only[e2,if_true]
    rcases huU s1 i (low s1 i hi e1)with q | q
    ·rw[q]
     cases (U s1 i).ownBlock<;>simp
    ·exact Or.inr (fun e=>q e.symm)
   ·simp only[e2,if_false]
    exact h.dj s1 i s2 j (low s1 i hi e1) (low s2 j hj e2) hij
end
end Go.Proofs.YtbofmlmdgkblkaaDoor
