import Derived.Test.YtkehcdfalcakmaaGreatDoorPQ
import Derived.Test.YtkehcdfalcakmaaGreatDoorQJ
import Derived.Test.YtkehcdfalcakmaaGreatDoorE7
namespace Go.Proofs.YtkehcdfalcakmaaGreatDoor
open Go.RowKit
def Fz(w:World)(b:Nat):Prop:=∀q,w.frozen? ⟨b,q,none⟩=false
theorem Fz.keep{w w':World}{b:Nat}(h:Fz w b)(k:w'.heap[b]?=w.heap[b]?):Fz w' b:=fun q=>(World.frozen?_of_block (a:=⟨b,q,none⟩) k).trans (h q)
def Zg2(w:World)(L B g:Nat)(lab:Nat->Nat)(i:Nat)(a:Option Addr)(vs:List Int):Prop :=
 ∀j (hj:j<vs.length),∃b o,a=some ⟨b,o,none⟩/\(L<=b/\b<B)/\b≠g/\lab b=i/\Fz w b/\w.cell? ⟨b,o+j,none⟩=some (.int .i64 vs[j])
def ZF(w:World)(L B:Nat)(pa:Option Addr)(ps:List Ph):Prop:=∃lab:Nat->Nat,∀i (h:i<ps.length),∃g a c,pa=some ⟨g,0,none⟩/\(L<=g/\g<B)/\Fz w g/\w.cell? ⟨g,i*2,none⟩=some (.int .i64 ps[i].dst)/\w.cell? ⟨g,i*2+1,none⟩=some (.slice a ps[i].args.length c)/\Zg2 w L B g lab i a ps[i].args
theorem ZF.phs{w:World}{L B:Nat}{pa:Option Addr}{ps:List Ph}(h:ZF w L B pa ps):ZN w L B pa ps:=fun i hi=>by
 obtain⟨lab,h⟩:=h;obtain⟨g,a,c,e,hg,_,h1,h2,h3⟩:=h i hi;refine⟨g,0,e,hg,a,c,by rw[Nat.zero_add];exact h1,by rw[Nat.zero_add];exact h2,fun j hj=>?_⟩;obtain⟨b,o,e,hb,_,_,_,hc⟩:=h3 j hj;exact⟨b,o,e,hb,hc⟩
theorem ZF.keepS{w w':World}{L B:Nat}{pa:Option Addr}{ps:List Ph}(h:ZF w L B pa ps)(k:X7 L B w w'):ZF w' L B pa ps:=by
 obtain⟨lab,h⟩:=h;refine⟨lab,fun i hi=>?_⟩;obtain⟨g,a,c,e,hg,hz,h1,h2,h3⟩:=h i hi;have q:=k g hg.1 hg.2;refine⟨g,a,c,e,hg,hz.keep q,(Xc q).trans h1,(Xc q).trans h2,fun j hj=>?_⟩;obtain⟨b,o,e,hb,hne,hl,hz,hc⟩:=h3 j hj;have q:=k b hb.1 hb.2;exact⟨b,o,e,hb,hne,hl,hz.keep q,(Xc q).trans hc⟩
theorem ZF.mono{w:World}{L B L' B':Nat}{pa:Option Addr}{ps:List Ph}(h:ZF w L B pa ps)(h1:L'<=L)(h2:B<=B'):ZF w L' B' pa ps:=by
 obtain⟨lab,h⟩:=h;refine⟨lab,fun i hi=>?_⟩;obtain⟨g,a,c,e,hg,hz,q1,q2,q3⟩:=h i hi;refine⟨g,a,c,e,by omega,hz,q1,q2,fun j hj=>?_⟩;obtain⟨b,o,e,hb,r⟩:=q3 j hj;exact⟨b,o,e,by omega,r⟩
def Jt(w:World)(L B:Nat)(ia:Option Addr)(is:List Xz):Prop:=∀i (h:i<is.length),∃g,ia=some ⟨g,0,none⟩/\(L<=g/\g<B)/\Fz w g/\Y0 w g (i*5) is[i]
theorem Jt.inss{w:World}{L B:Nat}{ia:Option Addr}{is:List Xz}(h:Jt w L B ia is):YE w L B ia is:=fun i hi=>by
 obtain⟨g,e,hg,_,h1⟩:=h i hi;exact⟨g,0,e,hg,by rw[Nat.zero_add];exact h1⟩
theorem Jt.keepS{w w':World}{L B:Nat}{ia:Option Addr}{is:List Xz}(h:Jt w L B ia is)(k:X7 L B w w'):Jt w' L B ia is:=fun i hi=>by
 obtain⟨g,e,hg,hz,h1⟩:=h i hi;have q:=k g hg.1 hg.2;exact⟨g,e,hg,hz.keep q,h1.keepS q⟩
theorem Jt.mono{w:World}{L B L' B':Nat}{ia:Option Addr}{is:List Xz}(h:Jt w L B ia is)(h1:L'<=L)(h2:B<=B'):Jt w L' B' ia is:=fun i hi=>by
 obtain⟨g,e,hg,r⟩:=h i hi;exact⟨g,e,by omega,r⟩
theorem Zf.sep{w:World}{H:Nat}{ia:Option Addr}{ic:Nat}{xs:List Xz}(h:Zf w H ia ic xs):Jt w H w.heap.size ia xs:=fun i hi=>by
 obtain⟨g,e,h1⟩:=h.at_ i hi;obtain⟨cs,hcs⟩:=h.own;subst e;exact⟨g,rfl,hcs.lt g rfl,fun q=>Kw hcs q,h1⟩
structure Zb(w:World)(H:Nat)(pa:Option Addr)(pc:Nat)(ps:List Ph):Prop where
 own:∃cs,w.ownsRow H 46 2 (.slice pa ps.length pc) ps.length cs
 sep:ZF w H w.heap.size pa ps
theorem Zb.nil(w:World)(H:Nat):Zb w H none 0 []:=⟨⟨[],World.ownsRow_nil _ _ _ _⟩,fun _=>0,fun i h=>absurd h (by simp)⟩
theorem Zb.keep{w w':World}{H:Nat}{pa:Option Addr}{pc:Nat}{ps:List Ph}(h:Zb w H pa pc ps)(k:X7 H w.heap.size w w')(hs:w.heap.size<=w'.heap.size):Zb w' H pa pc ps:=by
 obtain⟨cs,hcs⟩:=h.own;exact⟨⟨cs,YY hcs (fun b e=>k b (hcs.lt b e).1 (hcs.lt b e).2)⟩,(h.sep.keepS k).mono (Nat.le_refl _) hs⟩
def U1(w:World)(pa:Option Addr)(ps:List Ph)(X:Nat):Prop:=∀i (h:i<ps.length) g,pa=some ⟨g,0,none⟩->∀b o n c,w.cell? ⟨g,i*2+1,none⟩=some (.slice (some ⟨b,o,none⟩) n c)->0<ps[i].args.length->b<X
theorem Zb.lt{w:World}{H:Nat}{pa:Option Addr}{pc:Nat}{ps:List Ph}(h:Zb w H pa pc ps):U1 w pa ps w.heap.size:=fun i hi g e b o n c hc h0=>by
 obtain⟨lab,hs⟩:=h.sep;obtain⟨g',a,c',e',hg,_,h1,h2,h3⟩:=hs i hi;rw[e]at e';cases e';obtain⟨b',o',ea,hb,_⟩:=h3 0 h0;rw[h2]at hc;cases hc;cases ea;exact hb.2
theorem U1.keep{w w':World}{pa:Option Addr}{ps:List Ph}{X:Nat}(h:U1 w pa ps X)(k:∀g,pa=some ⟨g,0,none⟩->w'.heap[g]?=w.heap[g]?):U1 w' pa ps X:=fun i hi g e b o n c hc h0=>h i hi g e b o n c ((Xc (k g e)).symm.trans hc) h0
theorem Zb.push{w1 w2:World}{H:Nat}{pa:Option Addr}{pc:Nat}{ps:List Ph}(h:Zb w1 H pa pc ps){cs:List Value}(hcs:w1.ownsRow H 46 2 (.slice pa ps.length pc) ps.length cs)(p:Ph){a:Option Addr}{c:Nat}{g' cap:Nat}{X:Nat}(hlt:U1 w1 pa ps X)
 (ha:∀j (hj:j<p.args.length),∃b o,a=some ⟨b,o,none⟩/\(H<=b/\X<=b/\b<w1.heap.size)/\some b≠(Value.slice pa ps.length pc).ownBlock/\Fz w1 b/\w1.cell? ⟨b,o+j,none⟩=some (.int .i64 p.args[j]))
 (h2:w2.ownsRow H 46 2 (.slice (some ⟨g',0,none⟩) (ps.length+1) cap) (ps.length+1) (cs++[.int .i64 p.dst,.slice a p.args.length c])) (hg:w1.grownBy w2 (Value.slice pa ps.length pc).ownBlock) (hat:(Value.slice pa ps.length pc).ownBlock=some g'\/g'=w1.heap.size) :
 Zb w2 H (some ⟨g',0,none⟩) cap (ps++[p]):=by
 have hgs:=hg.size;have hl:=hcs.1;have hlen:(ps++[p]).length=ps.length+1:=by simp
 obtain⟨lab,hs⟩:=h.sep;have hg':=h2.lt g' rfl;have hz':Fz w2 g':=fun q=>Kw h2 q
 refine⟨⟨_,by rw[hlen];exact h2⟩,fun b=>if X<=b then ps.length else lab b,fun i hi=>?_⟩;by_cases hik:i<ps.length
 ·obtain⟨g,a0,c0,e,hg1,hz,h1,h3,h4⟩:=hs i hik
  subst e;rw[List.getElem_append_left hik];refine⟨g',a0,c0,rfl,hg',hz',(Z9 hcs h2 (by omega)).trans h1,(Z9 hcs h2 (by omega)).trans h3,fun j hj=>?_⟩;obtain⟨b,o,e,hb,hne,hla,hzb,hc⟩:=h4 j hj;subst e;have hbX:=hlt i hik g rfl b o _ _ h3 (by omega);have kb:=hg.block b hb.2 (fun e2=>hne (by injection e2));refine⟨b,o,rfl,by omega,?_,(if_neg (by omega)).trans hla,hzb.keep kb,(Xc kb).trans hc⟩;rcases hat with f | f
  ·have:g=g':=by injection f
   omega
  ·omega
 ·have hie:i=ps.length:=by omega
  subst hie;have e1:(ps++[p])[ps.length]=p:=by simp
  rw[e1];refine⟨g',a,c,rfl,hg',hz',?_,?_,fun j hj=>?_⟩
  ·have:=T7 (n:=ps.length) hl h2 (j:=0) (by simp)
   simpa using this
  ·have:=T7 (n:=ps.length) hl h2 (j:=1) (by simp)
   simpa using this
  ·obtain⟨b,o,e,hb,hne,hzb,hc⟩:=ha j hj
   have kb:=hg.block b hb.2.2 hne;refine⟨b,o,e,by omega,?_,if_pos hb.2.1,hzb.keep kb,(Xc kb).trans hc⟩;rcases hat with f | f
   ·intro e2;rw[<-e2]at f;exact hne f.symm
   ·omega
def Jq(w:World)(H:Nat)(pa:Option Addr)(pc:Nat)(ia:Option Addr)(ic:Nat)(ps:List Ph)(is:List Xz):Prop :=
 (is=[]/\ia=none/\ic=0/\Zb w H pa pc ps)\/(is≠[]/\∃H2,H<=H2/\H2<=w.heap.size/\ZF w H H2 pa ps/\Zf w H2 ia ic is)
theorem Jq.keep{w w':World}{H:Nat}{pa:Option Addr}{pc:Nat}{ia:Option Addr}{ic:Nat}{ps:List Ph}{is:List Xz}(h:Jq w H pa pc ia ic ps is)(k:X7 H w.heap.size w w')(hs:w.heap.size<=w'.heap.size):Jq w' H pa pc ia ic ps is:=by
 rcases h with⟨h1,h2,h3,h4⟩ | ⟨h1,H2,h2,h3,h4,h5⟩
 ·exact Or.inl ⟨h1,h2,h3,h4.keep k hs⟩
 ·exact Or.inr ⟨h1,H2,h2,by omega,h4.keepS (k.mono (Nat.le_refl _) h3),h5.keep (k.mono h2 (Nat.le_refl _))⟩
theorem Jq.rows{w:World}{H:Nat}{pa:Option Addr}{pc:Nat}{ia:Option Addr}{ic:Nat}{ps:List Ph}{is:List Xz}(h:Jq w H pa pc ia ic ps is)(hH:H<=w.heap.size):∃M,H<=M/\M<=w.heap.size/\ZF w H M pa ps/\Jt w M w.heap.size ia is:=by
 rcases h with⟨h1,h2,h3,h4⟩ | ⟨h1,H2,h2,h3,h4,h5⟩
 ·subst h1
  exact⟨w.heap.size,hH,Nat.le_refl _,h4.sep,fun i hi=>absurd hi (by simp)⟩
 ·exact⟨H2,h2,h3,h4,h5.sep⟩
def U9(w:World)(L B G o:Nat)(x:Xf):Prop:=∃pa pc ia ic M,(L<=M/\M<=B)/\w.cell? ⟨G,o,none⟩=some (.slice pa x.phis.length pc)/\w.cell? ⟨G,o+1,none⟩=some (.slice ia x.instrs.length ic)/\Y5 w G (o+2) x.term/\ZF w L M pa x.phis/\Jt w M B ia x.instrs
theorem U9.turn{w w':World}{L B G G' o o':Nat}{x:Xf}(h:U9 w L B G o x)(k:X7 L B w w')(hc:∀i,i<6->w'.cell? ⟨G',o' + i,none⟩=w.cell? ⟨G,o+i,none⟩):U9 w' L B G' o' x:=by
 obtain⟨pa,pc,ia,ic,M,hM,q0,q1,⟨t0,t1,t2,t3⟩,q2,q3⟩:=h;exact⟨pa,pc,ia,ic,M,hM,(hc 0 (by omega)).trans q0,(hc 1 (by omega)).trans q1,⟨(hc 2 (by omega)).trans t0,(hc 3 (by omega)).trans t1,(hc 4 (by omega)).trans t2,(hc 5 (by omega)).trans t3⟩,q2.keepS (fun b b1 b2=>k b b1 (by omega)),q3.keepS (fun b b1 b2=>k b (by omega) b2)⟩
theorem U9.blk{w:World}{L B G o:Nat}{x:Xf}(h:U9 w L B G o x):Js w L B G o x:=by
 obtain⟨pa,pc,ia,ic,M,hM,q0,q1,q2,q3,q4⟩:=h;exact⟨pa,pc,ia,ic,q0,q1,q2,q3.phs.mono (Nat.le_refl _) hM.2,q4.inss.mono hM.1 (Nat.le_refl _)⟩
structure ZbY(w:World)(B0 U G:Nat)(pre:List Xf)(Ls Bs:Nat->Nat):Prop where
 at_:∀i (h:i<pre.length),(B0<=Ls i/\Ls i<=Bs i/\Bs i<=U)/\¬(Ls i<=G/\G<Bs i)/\U9 w (Ls i) (Bs i) G (i*6) pre[i]/\pre[i].term.kind≠0
 ord:∀i j,i<j->j<pre.length->Bs i<=Ls j
structure JF(w:World)(B0:Nat)(va:Option Addr)(vc:Nat)(pre:List Xf):Prop where
 own:∃cs,w.ownsRow B0 43 6 (.slice va pre.length vc) pre.length cs
 clo:∀G,va=some ⟨G,0,none⟩->∃Ls Bs,ZbY w B0 w.heap.size G pre Ls Bs
 base:B0<=w.heap.size
structure ZT(w:World)(B0 H G vc:Nat)(pre:List Xf)(pa:Option Addr)(pc:Nat)(ia:Option Addr)(ic:Nat)(ps:List Ph)(is:List Xz):Prop where
 own:∃cs,w.ownsRow B0 43 6 (.slice (some ⟨G,0,none⟩) (pre.length+1) vc) (pre.length+1) cs
 clo:∃Ls Bs,ZbY w B0 H G pre Ls Bs
 lo:(B0<=G/\G<H)/\B0<=H/\H<=w.heap.size
 c0:w.cell? ⟨G,pre.length*6,none⟩=some (.slice pa ps.length pc)
 c1:w.cell? ⟨G,pre.length*6+1,none⟩=some (.slice ia is.length ic)
 ter:Y5 w G (pre.length*6+2) ⟨0,0,0,0⟩
 rows:Jq w H pa pc ia ic ps is
theorem ZbY.keep{w w':World}{B0 U G:Nat}{pre:List Xf}{Ls Bs:Nat->Nat}(h:ZbY w B0 U G pre Ls Bs)(k:∀b,B0<=b->b<U->b≠G->w'.heap[b]?=w.heap[b]?)(hG:∀i,i<pre.length*6->w'.cell? ⟨G,i,none⟩=w.cell? ⟨G,i,none⟩){U':Nat}(hs:U<=U'):ZbY w' B0 U' G pre Ls Bs:=by
 refine⟨fun i hi=>?_,h.ord⟩;obtain⟨h1,h3,h4,h5⟩:=h.at_ i hi;exact⟨by omega,h3,h4.turn (fun b b1 b2=>k b (by omega) (by omega) (fun e=>h3 (by omega))) (fun j hj=>hG _ (by omega)),h5⟩
theorem JF.keep{w w':World}{B0:Nat}{va:Option Addr}{vc:Nat}{pre:List Xf}(h:JF w B0 va vc pre)(k:X7 B0 w.heap.size w w')(hs:w.heap.size<=w'.heap.size):JF w' B0 va vc pre:=by
 obtain⟨cs,hcs⟩:=h.own;have hb:=h.base;refine⟨⟨cs,YY hcs (fun b e=>k b (hcs.lt b e).1 (hcs.lt b e).2)⟩,fun G e=>?_,by omega⟩;subst e;have hG:=hcs.lt G rfl;obtain⟨Ls,Bs,hq⟩:=h.clo G rfl;exact⟨Ls,Bs,hq.keep (fun b h1 h2 _=>k b h1 h2) (fun i _=>Xc (k G hG.1 hG.2)) hs⟩
theorem ZT.keep{w w':World}{B0 H G vc:Nat}{pre:List Xf}{pa:Option Addr}{pc:Nat}{ia:Option Addr}{ic:Nat}{ps:List Ph}{is:List Xz}(h:ZT w B0 H G vc pre pa pc ia ic ps is)(k:X7 B0 w.heap.size w w')(hs:w.heap.size<=w'.heap.size):ZT w' B0 H G vc pre pa pc ia ic ps is:=by
 obtain⟨cs,hcs⟩:=h.own;have hG:=hcs.lt G rfl;have q:=k G hG.1 hG.2;obtain⟨l1,l2,l3⟩:=h.lo;obtain⟨Ls,Bs,hq⟩:=h.clo;exact⟨⟨cs,YY hcs (fun b e=>k b (hcs.lt b e).1 (hcs.lt b e).2)⟩,⟨Ls,Bs,hq.keep (fun b h1 h2 _=>k b h1 (by omega)) (fun i _=>Xc q) (Nat.le_refl _)⟩,⟨l1,l2,by omega⟩,(Xc q).trans h.c0,(Xc q).trans h.c1,h.ter.keepS q,h.rows.keep (k.mono l2 (Nat.le_refl _)) hs⟩
theorem JF.nil(w:World)(B0:Nat)(h:B0<=w.heap.size):JF w B0 none 0 []:=⟨⟨[],World.ownsRow_nil _ _ _ _⟩,fun _ e=>(nomatch e),h⟩
theorem JF.open_{w1 w2:World}{B0:Nat}{va:Option Addr}{vc:Nat}{pre:List Xf}(h:JF w1 B0 va vc pre){cs:List Value}(hcs:w1.ownsRow B0 43 6 (.slice va pre.length vc) pre.length cs){G' cap:Nat}
 (h2:w2.ownsRow B0 43 6 (.slice (some ⟨G',0,none⟩) (pre.length+1) cap) (pre.length+1) (cs++[.slice none 0 0,.slice none 0 0,.int .i64 0,.int .i64 0,.int .i64 0,.int .i64 0])) (hg:w1.grownBy w2 (Value.slice va pre.length vc).ownBlock) (hat:(Value.slice va pre.length vc).ownBlock=some G'\/G'=w1.heap.size) :
 ZT w2 B0 w2.heap.size G' cap pre none 0 none 0 [] []:=by
 have hgs:=hg.size;have hG':=h2.lt G' rfl;have hl:=hcs.1;have q:=fun (j:Nat)(hj:j<6)=>T7 (n:=pre.length) hl h2 (j:=j) hj
 refine⟨⟨_,h2⟩,?_,by omega,q 0 (by omega),q 1 (by omega),⟨q 2 (by omega),q 3 (by omega),q 4 (by omega),q 5 (by omega)⟩,Or.inl ⟨rfl,rfl,rfl,Zb.nil _ _⟩⟩;by_cases hp:0<pre.length
 ·obtain⟨G,cap0,e,hG1,hG2⟩:=hcs.form hp
  obtain⟨rfl,-,rfl⟩:=Value.slice.inj e;obtain⟨Ls,Bs,hq⟩:=h.clo G rfl;refine⟨Ls,Bs,fun i hi=>?_,hq.ord⟩;obtain⟨h1,h4,h5,h6⟩:=hq.at_ i hi;have r:=fun (j:Nat)(hj:j<pre.length*6)=>Z9 hcs h2 hj
  refine⟨by omega,?_,h5.turn (fun b b1 b2=>hg.block b (by omega) (fun e=>h4 (by injection e with e;dsimp only at e;omega))) (fun j hj=>r _ (by omega)),h6⟩;rcases hat with f | f
  ·have:G=G':=by injection f
   omega
  ·omega
 ·exact⟨fun _=>0,fun _=>0,fun i hi=>absurd hi (by omega),fun i j _ hj=>absurd hj (by omega)⟩
section
variable {w1 w2 : World} {B0 H G vc : Nat} {pre : List Xf} {pa : Option Addr} {pc : Nat} {ia : Option Addr} {ic : Nat} {ps : List Ph} {is : List Xz}
theorem ZT.frame(h:ZT w1 B0 H G vc pre pa pc ia ic ps is){row:Option Nat}(hg:w1.grownBy w2 row)(hr:∀b,row=some b->H<=b)(k:Nat)(hk:pre.length*6<=k)(v:Value) :
 (∃cs,(w2.setCell ⟨G,k,none⟩ v).ownsRow B0 43 6 (.slice (some ⟨G,0,none⟩) (pre.length+1) vc) (pre.length+1) cs)/\(∃Ls Bs,ZbY (w2.setCell ⟨G,k,none⟩ v) B0 H G pre Ls Bs)/\(∀i,i≠k->(w2.setCell ⟨G,k,none⟩ v).cell? ⟨G,i,none⟩=w1.cell? ⟨G,i,none⟩)/\(∀u,w1.cell? ⟨G,k,none⟩=some u->(w2.setCell ⟨G,k,none⟩ v).cell? ⟨G,k,none⟩=some v)/\(∀b,b≠G->(w2.setCell ⟨G,k,none⟩ v).heap[b]?=w2.heap[b]?)/\(w2.setCell ⟨G,k,none⟩ v).heap.size=w2.heap.size:=by
 obtain⟨cs,hcs⟩:=h.own;obtain⟨⟨l0,l1⟩,l2,l3⟩:=h.lo;have hgs:=hg.size;have hG:=hcs.lt G rfl;have nG:some G≠row:=fun e=>by have:=hr G e.symm;omega
 have qG:=hg.block G hG.2 nG;have f:∀b,b≠G->(w2.setCell ⟨G,k,none⟩ v).heap[b]?=w2.heap[b]?:=fun b hb=>Below.heap_setCell _ _ _ _ hb
 have oc:∀i,i≠k->(w2.setCell ⟨G,k,none⟩ v).cell? ⟨G,i,none⟩=w1.cell? ⟨G,i,none⟩:=fun i hi=>(World.cell?_setCell_other _ _ _ _ (by intro e;injection e with _ e;exact hi e.symm)).trans (Xc qG)
 obtain⟨Ls,Bs,hq⟩:=h.clo;refine⟨JM (YY hcs (fun b e=>by injection e with e;dsimp only at e;subst e;exact qG)) k v,⟨Ls,Bs,hq.keep (fun b h1 h2 h3=>(f b h3).trans (hg.block b (by omega) (fun e=>by have:=hr b e.symm;omega))) (fun i hi=>oc i (by omega)) (Nat.le_refl _)⟩,oc,fun u hu=>?_,f,Xd _ _ _⟩;exact World.cell?_setCell_same _ _ _ ((Xc qG).trans hu)
theorem ZT.phi(h:ZT w1 B0 H G vc pre pa pc ia ic ps []){cs:List Value}(hcs:w1.ownsRow H 46 2 (.slice pa ps.length pc) ps.length cs)(p:Ph){a:Option Addr}{c:Nat}{g' cap:Nat}{X:Nat}(hlt:U1 w1 pa ps X)
 (ha:∀j (hj:j<p.args.length),∃b o,a=some ⟨b,o,none⟩/\(H<=b/\X<=b/\b<w1.heap.size)/\some b≠(Value.slice pa ps.length pc).ownBlock/\Fz w1 b/\w1.cell? ⟨b,o+j,none⟩=some (.int .i64 p.args[j]))
 (h2:w2.ownsRow H 46 2 (.slice (some ⟨g',0,none⟩) (ps.length+1) cap) (ps.length+1) (cs++[.int .i64 p.dst,.slice a p.args.length c])) (hg:w1.grownBy w2 (Value.slice pa ps.length pc).ownBlock) (hat:(Value.slice pa ps.length pc).ownBlock=some g'\/g'=w1.heap.size) :
 ZT (w2.setCell ⟨G,pre.length*6,none⟩ (.slice (some ⟨g',0,none⟩) (ps.length+1) cap)) B0 H G vc pre (some ⟨g',0,none⟩) cap ia ic (ps++[p]) []:=by
 obtain⟨⟨l0,l1⟩,l2,l3⟩:=h.lo;have hgs:=hg.size;obtain⟨f1,f2,f3,f4,f5,f6⟩:=h.frame hg (fun b e=>(hcs.lt b e).1) (pre.length*6) (Nat.le_refl _) (.slice (some ⟨g',0,none⟩) (ps.length+1) cap);obtain⟨t0,t1,t2,t3⟩:=h.ter;rcases h.rows with⟨_,rfl,rfl,hr⟩ | ⟨e,_⟩
 ·refine⟨f1,f2,⟨⟨l0,l1⟩,l2,by omega⟩,by rw[show(ps++[p]).length=ps.length+1 by simp];exact f4 _ h.c0,(f3 _ (by omega)).trans h.c1,⟨(f3 _ (by omega)).trans t0,(f3 _ (by omega)).trans t1,(f3 _ (by omega)).trans t2,(f3 _ (by omega)).trans t3⟩,Or.inl ⟨rfl,rfl,rfl,?_⟩⟩
  exact(hr.push hcs p hlt ha h2 hg hat).keep (fun b b1 b2=>f5 b (by omega)) (by omega)
 ·exact absurd rfl e
theorem ZT.ins(h:ZT w1 B0 H G vc pre pa pc ia ic ps is){H2:Nat}{cs:List Value}(hH:H<=H2/\H2<=w1.heap.size)(hph:ZF w1 H H2 pa ps)(hio:Zf w1 H2 ia ic is)(hcs:w1.ownsRow H2 53 5 (.slice ia is.length ic) is.length cs)(x:Xz){g' cap:Nat}
 (h2:w2.ownsRow H2 53 5 (.slice (some ⟨g',0,none⟩) (is.length+1) cap) (is.length+1) (cs++x.cells)) (hg:w1.grownBy w2 (Value.slice ia is.length ic).ownBlock) :
 ZT (w2.setCell ⟨G,pre.length*6+1,none⟩ (.slice (some ⟨g',0,none⟩) (is.length+1) cap)) B0 H G vc pre pa pc (some ⟨g',0,none⟩) cap ps (is++[x]):=by
 obtain⟨⟨l0,l1⟩,l2,l3⟩:=h.lo;have hgs:=hg.size;have hrow:=fun b e=>hcs.lt b e
 obtain⟨f1,f2,f3,f4,f5,f6⟩:=h.frame hg (fun b e=>by have:=(hrow b e).1;omega) (pre.length*6+1) (by omega) (.slice (some ⟨g',0,none⟩) (is.length+1) cap);obtain⟨t0,t1,t2,t3⟩:=h.ter;refine⟨f1,f2,⟨⟨l0,l1⟩,l2,by omega⟩,(f3 _ (by omega)).trans h.c0,by rw[show(is++[x]).length=is.length+1 by simp];exact f4 _ h.c1,⟨(f3 _ (by omega)).trans t0,(f3 _ (by omega)).trans t1,(f3 _ (by omega)).trans t2,(f3 _ (by omega)).trans t3⟩,Or.inr ⟨by simp,H2,hH.1,by omega,hph.keepS (fun b b1 b2=>(f5 b (by omega)).trans (hg.block b (by omega) (fun e=>by have:=(hrow b e.symm).1;omega))),?_⟩⟩;exact(hio.push hcs x h2).keep (fun b b1 b2=>f5 b (by omega))
theorem ZT.insRow(h:ZT w1 B0 H G vc pre pa pc ia ic ps is):∃H2 cs,(H<=H2/\H2<=w1.heap.size)/\ZF w1 H H2 pa ps/\Zf w1 H2 ia ic is/\w1.ownsRow H2 53 5 (.slice ia is.length ic) is.length cs:=by
 obtain⟨_,l2,l3⟩:=h.lo;rcases h.rows with⟨rfl,rfl,rfl,hr⟩ | ⟨_,H2,h1,h2,h3,h4⟩
 ·exact⟨w1.heap.size,[],⟨l3,Nat.le_refl _⟩,hr.sep,⟨⟨[],World.ownsRow_nil _ _ _ _⟩,fun i hi=>absurd hi (by simp)⟩,World.ownsRow_nil _ _ _ _⟩
 ·obtain⟨cs,hcs⟩:=h4.own
  exact⟨H2,cs,⟨h1,h2⟩,h3,h4,hcs⟩
theorem ZT.close(h:ZT w1 B0 H G vc pre pa pc ia ic ps is)(t:XN)(ht:t.kind≠0):JF ((((w1.setCell ⟨G,pre.length*6+2,none⟩ (.int .i64 t.kind)).setCell ⟨G,pre.length*6+2+1,none⟩ (.int .i64 t.a)).setCell ⟨G,pre.length*6+2+2,none⟩ (.int .i64 t.to)).setCell ⟨G,pre.length*6+2+3,none⟩ (.int .i64 t.els)) B0 (some ⟨G,0,none⟩) vc (pre++[⟨ps,is,t⟩]):=by
 obtain⟨⟨l0,l1⟩,l2,l3⟩:=h.lo;obtain⟨cs,hcs⟩:=h.own;obtain⟨cs1,h1⟩:=JM hcs (pre.length*6+2) (.int .i64 t.kind);obtain⟨cs2,h2⟩:=JM h1 (pre.length*6+2+1) (.int .i64 t.a);obtain⟨cs3,h3⟩:=JM h2 (pre.length*6+2+2) (.int .i64 t.to);obtain⟨cs4,h4⟩:=JM h3 (pre.length*6+2+3) (.int .i64 t.els);obtain⟨t0,t1,t2,t3⟩:=h.ter;generalize hW:((((w1.setCell ⟨G,pre.length*6+2,none⟩ (.int .i64 t.kind)).setCell ⟨G,pre.length*6+2+1,none⟩ (.int .i64 t.a)).setCell ⟨G,pre.length*6+2+2,none⟩ (.int .i64 t.to)).setCell ⟨G,pre.length*6+2+3,none⟩ (.int .i64 t.els))=W at *;have far:∀b,b≠G->W.heap[b]?=w1.heap[b]?:=fun b hb=>by rw[<-hW,Below.heap_setCell _ _ _ _ hb,Below.heap_setCell _ _ _ _ hb,Below.heap_setCell _ _ _ _ hb,Below.heap_setCell _ _ _ _ hb]
 have hsz:W.heap.size=w1.heap.size:=by rw[<-hW];simp
 have oc:∀i,i<pre.length*6+2->W.cell? ⟨G,i,none⟩=w1.cell? ⟨G,i,none⟩:=fun i hi=>by
  have ne:∀k,i≠k->∀(U:World)(v:Value),(U.setCell ⟨G,k,none⟩ v).cell? ⟨G,i,none⟩=U.cell? ⟨G,i,none⟩:=fun k hk U v=>World.cell?_setCell_other _ _ _ _ (by intro e;injection e with _ e;exact hk e.symm)
  rw[<-hW,ne _ (by omega),ne _ (by omega),ne _ (by omega),ne _ (by omega)]
 have htr:Y5 W G (pre.length*6+2) t:=by
  rw[<-hW];refine⟨?_,?_,?_,?_⟩<;>simp[t0,t1,t2,t3,go_sem]
 have hlen:(pre++([⟨ps,is,t⟩]:List Xf)).length=pre.length+1:=by simp
 refine⟨⟨cs4,by rw[hlen];exact h4⟩,fun G' e=>?_,by omega⟩;injection e with e;injection e with e;subst e;obtain⟨Ls,Bs,hq⟩:=h.clo;have hq2:=hq.keep (w':=W) (fun b b1 b2 b3=>far b b3) (fun i hi=>oc i (by omega)) (U':=H) (Nat.le_refl _);refine⟨fun i=>if i<pre.length then Ls i else H,fun i=>if i<pre.length then Bs i else w1.heap.size,fun i hi=>?_,fun i j hij hj=>?_⟩
 ·by_cases hik:i<pre.length
  ·rw[List.getElem_append_left hik]
   rw[if_pos hik,if_pos hik];obtain⟨q1,q2,q3,q4⟩:=hq2.at_ i hik;exact⟨by omega,q2,q3,q4⟩
  ·have hie:i=pre.length:=by omega
   subst hie;have e1:(pre++([⟨ps,is,t⟩]:List Xf))[pre.length]=⟨ps,is,t⟩:=by simp
   rw[e1];dsimp only;rw[if_neg hik,if_neg hik];obtain⟨M,m1,m2,r1,r2⟩:=h.rows.rows l3;have sm:X7 H w1.heap.size w1 W:=fun b b1 b2=>far b (by omega)
   exact⟨by omega,by omega,⟨pa,pc,ia,ic,M,⟨m1,m2⟩,(oc _ (by omega)).trans h.c0,(oc _ (by omega)).trans h.c1,htr,r1.keepS (sm.mono (Nat.le_refl _) m2),r2.keepS (sm.mono m1 (Nat.le_refl _))⟩,ht⟩
 ·have hi:i<pre.length:=by omega
  rw[if_pos hi];by_cases hjk:j<pre.length
  ·rw[if_pos hjk];exact hq.ord i j hij hjk
  ·rw[if_neg hjk];exact(hq.at_ i hi).1.2.2
end
def Zo(w:World)(L B:Nat)(va:Option Addr)(pre:List Xf):Prop:=pre=[]\/∃G Ls Bs,va=some ⟨G,0,none⟩/\(L<=G/\G<B)/\Fz w G/\ZbY w L B G pre Ls Bs
theorem Zo.blks{w:World}{L B:Nat}{va:Option Addr}{pre:List Xf}(h:Zo w L B va pre):X8 w L B va pre:=fun i hi=>by
 rcases h with rfl | ⟨G,Ls,Bs,e,hG,_,hq⟩
 ·exact absurd hi (by simp)
 ·obtain⟨h1,_,h3,_⟩:=hq.at_ i hi
  exact⟨G,0,e,hG,by rw[Nat.zero_add];exact h3.blk.mono h1.1 h1.2.2⟩
theorem Zo.keepS{w w':World}{L B:Nat}{va:Option Addr}{pre:List Xf}(h:Zo w L B va pre)(k:X7 L B w w'):Zo w' L B va pre:=by
 rcases h with rfl | ⟨G,Ls,Bs,e,hG,hz,hq⟩
 ·exact Or.inl rfl
 ·have q:=k G hG.1 hG.2
  exact Or.inr ⟨G,Ls,Bs,e,hG,hz.keep q,hq.keep (fun b b1 b2 _=>k b b1 b2) (fun i _=>Xc q) (Nat.le_refl _)⟩
theorem Zo.mono{w:World}{L B L' B':Nat}{va:Option Addr}{pre:List Xf}(h:Zo w L B va pre)(h1:L'<=L)(h2:B<=B'):Zo w L' B' va pre:=by
 rcases h with rfl | ⟨G,Ls,Bs,e,hG,hz,hq⟩
 ·exact Or.inl rfl
 ·refine Or.inr ⟨G,Ls,Bs,e,by omega,hz,fun i hi=>?_,hq.ord⟩
  obtain⟨q1,q2⟩:=hq.at_ i hi;exact⟨by omega,q2⟩
theorem JF.sep{w:World}{B0:Nat}{va:Option Addr}{vc:Nat}{pre:List Xf}(h:JF w B0 va vc pre):Zo w B0 w.heap.size va pre:=by
 obtain⟨cs,hcs⟩:=h.own;by_cases hp:0<pre.length
 ·obtain⟨G,cap,e,hG1,hG2⟩:=hcs.form hp
  obtain⟨rfl,-,rfl⟩:=Value.slice.inj e;obtain⟨Ls,Bs,hq⟩:=h.clo G rfl;exact Or.inr ⟨G,Ls,Bs,rfl,⟨hG1,hG2⟩,fun q=>Kw hcs q,hq⟩
 ·exact Or.inl (List.eq_nil_of_length_eq_zero (by omega))
theorem JF.blks{w:World}{B0:Nat}{va:Option Addr}{vc:Nat}{pre:List Xf}(h:JF w B0 va vc pre):X8 w B0 w.heap.size va pre:=h.sep.blks
def Tw(w:World)(B0:Nat)(va:Option Addr)(n vc:Nat)(s:K5):Prop :=
 match s.cur with
 | none=>n=s.pre.length/\JF w B0 va vc s.pre
 | some (ps,is)=>∃H G pa pc ia ic,va=some ⟨G,0,none⟩/\n=s.pre.length+1/\ZT w B0 H G vc s.pre pa pc ia ic ps is
theorem Tw.keep{w w':World}{B0:Nat}{va:Option Addr}{n vc:Nat}{s:K5}(h:Tw w B0 va n vc s)(k:X7 B0 w.heap.size w w')(hs:w.heap.size<=w'.heap.size):Tw w' B0 va n vc s:=by
 unfold Tw at h |-;split at h
 ·exact⟨h.1,h.2.keep k hs⟩
 ·obtain⟨H,G,pa,pc,ia,ic,h1,h2,h3⟩:=h
  exact⟨H,G,pa,pc,ia,ic,h1,h2,h3.keep k hs⟩
theorem Tw.len{w:World}{B0:Nat}{va:Option Addr}{n vc:Nat}{s:K5}(h:Tw w B0 va n vc s):n<=Yh s:=by
 obtain⟨pre,cur⟩:=s
 match cur,h with
 | none,h=>have:=h.1;simp only[Yh];dsimp only at this;omega
 | some (ps,is),h =>
  obtain⟨H,G,pa,pc,ia,ic,h1,h2,h3⟩:=h;simp only[Yh];dsimp only at h2;omega
theorem Tw.start(w:World)(B0:Nat)(h:B0<=w.heap.size):Tw w B0 none 0 0 ⟨[],none⟩:=⟨rfl,JF.nil w B0 h⟩
end Go.Proofs.YtkehcdfalcakmaaGreatDoor
namespace Go.Proofs.YtkehcdfalcakmaaGreatDoor
set_option maxHeartbeats 4000000
set_option maxRecDepth 100000
open Go.RowKit Go.Shelf
theorem Uv(w:World)(o:Obj):(w.alloc o).heap[w.heap.size]?=some o:=by show(w.heap.push o)[w.heap.size]?=some o;simp
theorem Tryz.infoBlk2:(Tryz.prog.info? 43).map (fun i=>(i.zero,i.size,i.bytes))=some (some (.agg #[.slice none 0 0,.slice none 0 0,.int .i64 0,.int .i64 0,.int .i64 0,.int .i64 0]),6,80):=by kernel_rfl
theorem Tryz.infoIns2:(Tryz.prog.info? 53).map (fun i=>(i.zero,i.size,i.bytes))=some (some (.agg #[.int .i64 0,.int .i64 0,.int .i64 0,.int .i64 0,.int .i64 0]),5,40):=by kernel_rfl
theorem Tryz.infoPhi2:(Tryz.prog.info? 46).map (fun i=>(i.zero,i.size,i.bytes))=some (some (.agg #[.int .i64 0,.slice none 0 0]),2,32):=by kernel_rfl
structure Vd(w:World)(R:Nat)(wd:Value)(V:Int)(B0:Nat)(s:K5)(va:Option Addr)(vn vc:Nat):Prop where
 rd:Zef w R wd V va vn vc s.cur.isSome
 st:Tw w B0 va vn vc s
 fz:∀o,w.frozen? ⟨R,o,none⟩=false
 lo:R<B0/\B0<=w.heap.size
theorem Zef.keep{w w':World}{R:Nat}{wd:Value}{V:Int}{va:Option Addr}{n c:Nat}{op:Bool}(h:Zef w R wd V va n c op)(k:w'.heap[R]?=w.heap[R]?):Zef w' R wd V va n c op:=⟨(Xc k).trans h.words,(Xc k).trans h.values,(Xc k).trans h.blocks,(Xc k).trans h.opened⟩
theorem Vd.keep{w w':World}{R:Nat}{wd:Value}{V:Int}{B0:Nat}{s:K5}{va:Option Addr}{vn vc:Nat}(h:Vd w R wd V B0 s va vn vc)(k:Below w.heap.size w w'):Vd w' R wd V B0 s va vn vc:=by
 obtain⟨l1,l2⟩:=h.lo;have hs:=k.size;have q:=k.block R (by omega);exact⟨h.rd.keep q,h.st.keep (fun b _ h2=>k.block b h2) hs,fun o=>(World.frozen?_of_block q).trans (h.fz o),⟨l1,by omega⟩⟩
theorem Kb.low'{B r:Nat}{w w1:World}(hos:w1.os=w.os)(htp:w1.tape=w.tape)(hou:w1.output=w.output)(hs:w.heap.size<=w1.heap.size)(h:∀b,b<B->b≠r->w1.heap[b]?=w.heap[b]?):Kb B r r w w1:=⟨hos,htp,hou,hs,fun b h1 h2 _=>h b h1 h2⟩
theorem Zee(R:Nat)(wd:Value)(V:Int)(B0:Nat)(pre:List Xf)(va:Option Addr)(vn vc:Nat)(code:Int)(na:Option Addr)(nn nc:Nat)(w:World)(h:Hid (Vd w R wd V B0 ⟨pre,none⟩ va vn vc))(hvb:vn<=100000) :
 Calls Tryz.prog 87 #[.pointer (some ⟨R,0,none⟩),UL 0 code,.slice na nn nc] w fun e w'=>e=.returned (.tuple #[])/\∃va' vn' vc',Vd w' R wd V B0 ⟨pre,some ([],[])⟩ va' vn' vc'/\Kb B0 R R w w':=by
 obtain⟨hvn,hbc⟩:=h.st;dsimp only at hvn hbc;obtain⟨cs,hcs⟩:=hbc.own;obtain⟨lo1,lo2⟩:=h.lo;have hRl:R<w.heap.size:=by omega
 have b1:=fun x=>Xb (Below.refl w.heap.size w) x
 have c2:=fun x=>((b1 x).cell (p:=⟨R,2,none⟩) hRl).trans h.rd.blocks
 have HAP:Hid (∀x y,((w.alloc x).alloc y).ownsRow B0 43 6 (.slice va vn vc) vn cs):=Xa (fun x y=>by rw[hvn];exact YY hcs (fun b e=>(Xb (b1 x) y).block b (hcs.lt b e).2));have HGW:Hid (∀x t g' cap' wN,wN.ownsRow B0 43 6 (.slice (some ⟨g',0,none⟩) (vn+1) cap') (vn+1) (cs++[.slice none 0 0,.slice none 0 0,.int .i64 0,.int .i64 0,.int .i64 0,.int .i64 0])->((w.alloc x).alloc (.cells #[.slice none 0 0,.slice none 0 0,.int .i64 0,.int .i64 0,.int .i64 0,.int .i64 0] t)).grownBy wN (Value.slice va vn vc).ownBlock->((Value.slice va vn vc).ownBlock=some g'\/g'=w.heap.size+1+1)->wN.cell? ⟨R,2,none⟩=some (.slice va vn vc)/\wN.cell? ⟨R,3,none⟩=some (.bool false)/\(∀o,wN.frozen? ⟨R,o,none⟩=false)/\Vd ((wN.setCell ⟨R,2,none⟩ (.slice (some ⟨g',0,none⟩) (vn+1) cap')).setCell ⟨R,3,none⟩ (.bool true)) R wd V B0 ⟨pre,some ([],[])⟩ (some ⟨g',0,none⟩) (vn+1) cap'/\Kb B0 R R w ((wN.setCell ⟨R,2,none⟩ (.slice (some ⟨g',0,none⟩) (vn+1) cap')).setCell ⟨R,3,none⟩ (.bool true))):=Xa (fun x t g' cap' wN ho hg hat=>by
  have b2:=Xb (b1 x) (.cells #[.slice none 0 0,.slice none 0 0,.int .i64 0,.int .i64 0,.int .i64 0,.int .i64 0] t);have e2:((w.alloc x).alloc (.cells #[.slice none 0 0,.slice none 0 0,.int .i64 0,.int .i64 0,.int .i64 0,.int .i64 0] t)).heap.size=w.heap.size+1+1:=by simp
  have hgs:=hg.size;rw[e2]at hgs;have hcb:=hbc.keep (w':=(w.alloc x).alloc (.cells #[.slice none 0 0,.slice none 0 0,.int .i64 0,.int .i64 0,.int .i64 0,.int .i64 0] t)) (fun b _ h2=>b2.block b h2) (by omega);have hcs':=HAP.out x (.cells #[.slice none 0 0,.slice none 0 0,.int .i64 0,.int .i64 0,.int .i64 0,.int .i64 0] t);rw[hvn]at hcs' ho hg hat |-;have hbo:=hcb.open_ hcs' ho hg (by rw[e2];exact hat);have low:∀b,b<B0->wN.heap[b]?=w.heap[b]?:=fun b hb=>(hg.block b (by omega) (fun e=>by have:=(hcs'.lt b e.symm).1;omega)).trans (b2.block b (by omega))
  have kR:=low R lo1;have q2:=(Xc (o:=2) kR).trans h.rd.blocks;rw[hvn]at q2;have q3:=(Xc (o:=3) kR).trans h.rd.opened;have qz:=fun o=>(World.frozen?_of_block (a:=⟨R,o,none⟩) kR).trans (h.fz o)
  have sm:∀b,b≠R->((wN.setCell ⟨R,2,none⟩ (.slice (some ⟨g',0,none⟩) (pre.length+1) cap')).setCell ⟨R,3,none⟩ (.bool true)).heap[b]?=wN.heap[b]?:=fun b hb=>(Below.heap_setCell _ _ _ _ hb).trans (Below.heap_setCell _ _ _ _ hb)
  have oth:∀(U:World)(i j:Nat)(v:Value),i≠j->(U.setCell ⟨R,i,none⟩ v).cell? ⟨R,j,none⟩=U.cell? ⟨R,j,none⟩:=fun U i j v hij=>World.cell?_setCell_other _ _ _ _ (by intro e;injection e with _ e;exact hij e)
  refine⟨q2,q3,qz,⟨⟨?_,?_,?_,?_⟩,?_,fun o=>?_,⟨lo1,by simp;omega⟩⟩,Kb.low' hg.os hg.tape hg.output (by simp;omega) (fun b h1 h2=>(sm b h2).trans (low b h1))⟩
  ·rw[oth _ _ _ _ (by decide),oth _ _ _ _ (by decide)];exact(Xc kR).trans h.rd.words
  ·rw[oth _ _ _ _ (by decide),oth _ _ _ _ (by decide)];exact(Xc kR).trans h.rd.values
  ·rw[oth _ _ _ _ (by decide)];exact World.cell?_setCell_same _ _ _ q2
  ·exact World.cell?_setCell_same _ _ _ ((oth _ _ _ _ (by decide)).trans q3)
  ·exact⟨_,g',_,_,_,_,rfl,rfl,hbo.keep (fun b h1 h2=>sm b (by omega)) (by simp)⟩
  ·rw[World.frozen?_setCell,World.frozen?_setCell];exact qz o)
 obtain⟨i0,hi0,hz0,hz1,hz2⟩:=info_parts Tryz.infoBlk2;have hva:(vn=0/\True)\/∃G,va=some ⟨G,0,none⟩:=by
  rcases hcs.2 with⟨e,h0⟩ | ⟨G,_,_,e,_⟩
  ·exact Or.inl ⟨by omega,trivial⟩
  ·right;injection e with e;exact⟨G,e⟩
 clear h hbc hcs hvn hva;unfold UL
 go_enter Tryz.func87,Tryz.ntmps87
 go_wp2_with (at_builtin;refine wpList_append_lies _ rfl _ _ 23 rfl B0 43 i0 (.agg #[.slice none 0 0,.slice none 0 0,.int .i64 0,.int .i64 0,.int .i64 0,.int .i64 0]) 6 80 Tryz.underlying23 hi0 hz0 hz1 hz2 rfl (by decide) (.slice va vn vc) vn cs (by simp[Act.eval]) (HAP.out _ _) ⟨w.heap.size+1,0,none⟩ 1 1 [.slice none 0 0,.slice none 0 0,.int .i64 0,.int .i64 0,.int .i64 0,.int .i64 0] (by simp[Act.eval]) rfl (World.news_of_block (by have q:=Uv (w.alloc (.cells #[.int .i64 0,.int .i64 code] 128)) (.cells #[.slice none 0 0,.slice none 0 0,.int .i64 0,.int .i64 0,.int .i64 0,.int .i64 0] 43);rw[World.size_alloc]at q;exact q)) (by intro u hu;simp at hu;rcases hu with rfl | rfl<;>rfl) (by decide) (by unfold maxLen;omega) (by omega) (by simp;omega) (w.heap.size+1+1) (by simp) ?_;intro g' cap' wN hown hgrow hat hlt2;obtain⟨d2,d3,dz,hrs,hkb⟩:=HGW.out _ _ _ _ _ hown hgrow hat;have HRS:=Xa hrs;have HKB:=Xa hkb;clear hown hgrow hat hlt2 hrs hkb)
 exact bodyPost_end (v:=.tuple #[]) (by simp[results,Tryz.results87,go_sem]) rfl ⟨rfl,_,_,_,HRS.out,HKB.out⟩
theorem ZgA(R:Nat)(wd:Value)(V:Int)(B0:Nat)(pre:List Xf)(ps:List Ph)(va:Option Addr)(vn vc:Nat)(code:Int)(nb no nn nc:Nat)(nums:List Int)(w0 w:World)(h:Hid (Vd w0 R wd V B0 ⟨pre,some (ps,[])⟩ va vn vc))(hb:Hid (Below w0.heap.size w0 w))(hvb:vn<=100000)(hpl:ps.length<=100000)
 (hnn:Hid (nn=nums.length)) (hn2:2<=nn) (hnl:nn<=1000000) (hcap:nn<=nc) (hna:Hid (Xh w w0.heap.size w.heap.size (some ⟨nb,no,none⟩) nums)) (hfz:Hid (Fz w nb)) :
 Calls Tryz.prog 87 #[.pointer (some ⟨R,0,none⟩),UL 1 code,.slice (some ⟨nb,no,none⟩) nn nc] w fun e w'=>e=.returned (.tuple #[])/\∃va' vn' vc',Vd w' R wd V B0 ⟨pre,some (ps++[⟨nums.getD 0 0,nums.tail⟩],[])⟩ va' vn' vc'/\Kb B0 R R w w':=by
 obtain⟨H,G,pa,pc,ia,ic,hva,hvn,hbo⟩:=h.st;dsimp only at hvn hbo;obtain⟨lo1,lo2⟩:=h.lo;have hbs:=hb.size;obtain⟨⟨lG0,lG1⟩,lH1,lH2⟩:=hbo.lo;have hw:=h.keep hb.out;have HBO:=Xa (hbo.keep (w':=w) (fun b _ h2=>hb.block b h2) hbs);have HPO:Hid (Zb w0 H pa pc ps):=Xa (by rcases hbo.rows with⟨_,_,_,h⟩ | ⟨h,_⟩;exact h;exact absurd rfl h);obtain⟨cs,hcs⟩:=HPO.own;obtain⟨p0,p1⟩:w.cell? ⟨nb,no,none⟩=some (.int .i64 (nums.getD 0 0))/\w0.heap.size<=nb/\nb<w.heap.size:=by
  obtain⟨b',o',e,q,hc⟩:=hna.out 0 (by have:=hnn.out;omega);cases e;exact⟨hc.trans (by have:=hnn.out;simp[show 0<nums.length by omega]),q⟩
 have hRl:R<w.heap.size:=by omega
 have hGl:G<w.heap.size:=by omega
 have b1:=fun x=>Xb (Below.refl w.heap.size w) x
 have HM:Hid (pre.length=vn-1):=Xa (by omega);obtain⟨m,hm⟩:∃m,pre.length=m:=⟨_,rfl⟩;have hvm:vn=m+1:=by omega
 have HLA:Hid (∀x,Calls Tryz.prog 101 #[.pointer (some ⟨R,0,none⟩)] (w.alloc x) fun e w'=>e=.returned (.pointer (some ⟨G,m*6,none⟩))/\w'=(w.alloc x).drew):=Xa (fun x=>Ur R wd V G m vc true (w.alloc x) (by
  have q:=(hw.rd.keep ((b1 x).block R hRl));rw[hva,hvm]at q;exact q) (by omega))
 have HAP:Hid (∀W,Below w.heap.size w W->W.ownsRow H 46 2 (.slice pa ps.length pc) ps.length cs):=Xa (fun W hW=>YY hcs (fun b e=>(hW.block b (by have:=(hcs.lt b e).2;omega)).trans (hb.block b (hcs.lt b e).2)));have HCL:Hid (∀W,Below w.heap.size w W->W.cell? ⟨G,m*6,none⟩=some (.slice pa ps.length pc)):=Xa (fun W hW=>(hW.cell (p:=⟨G,m*6,none⟩) hGl).trans (by rw[<-hm];exact HBO.c0));have HGW:Hid (∀W g' cap' wN,Below w.heap.size w W->wN.ownsRow H 46 2 (.slice (some ⟨g',0,none⟩) (ps.length+1) cap') (ps.length+1) (cs++[.int .i64 (nums.getD 0 0),.slice (some ⟨nb,no+1,none⟩) (nn-1) (nc-1)])->W.grownBy wN (Value.slice pa ps.length pc).ownBlock->((Value.slice pa ps.length pc).ownBlock=some g'\/g'=W.heap.size)->wN.cell? ⟨G,m*6,none⟩=some (.slice pa ps.length pc)/\(∀o,wN.frozen? ⟨G,o,none⟩=false)/\wN.cell? ⟨nb,no,none⟩=some (.int .i64 (nums.getD 0 0))/\Vd (wN.setCell ⟨G,m*6,none⟩ (.slice (some ⟨g',0,none⟩) (ps.length+1) cap')) R wd V B0 ⟨pre,some (ps++[⟨nums.getD 0 0,nums.tail⟩],[])⟩ (some ⟨G,0,none⟩) (m+1) vc/\Kb B0 R R w (wN.setCell ⟨G,m*6,none⟩ (.slice (some ⟨g',0,none⟩) (ps.length+1) cap'))):=Xa (fun W g' cap' wN hW ho hg hat=>by
  have hWs:=hW.size;have hgs:=hg.size;have hcs':=HAP.out W hW;have hbo':=HBO.keep (w':=W) (fun b _ h2=>hW.block b h2) hWs;have htl:nums.tail.length=nn-1:=by rw[List.length_tail,<-hnn.out]
  have hin:=hbo'.phi hcs' ⟨nums.getD 0 0,nums.tail⟩ (a:=some ⟨nb,no+1,none⟩) (c:=nc-1) (HPO.lt.keep (fun g e=>by
   subst e;have hgl:=(hcs.lt g rfl).2;exact(hW.block g (by omega)).trans (hb.block g hgl))) (fun j hj=>by
   obtain⟨b',o',e,q,hc⟩:=(hna.keep (hW.mono (Nat.le_refl _))) (j+1) (by rw[List.length_tail]at hj;omega);cases e;refine⟨nb,no+1,rfl,by omega,fun e2=>by have:=(hcs.lt nb e2.symm).2;omega,hfz.keep (hW.block nb p1.2),?_⟩;rw[show no+1+j=no+(j+1) by omega,hc];simp) (by dsimp only;rw[htl];exact ho) hg hat
  rw[hm]at hin;have low:∀b,b<H->wN.heap[b]?=W.heap[b]?:=fun b h1=>hg.block b (by omega) (fun e=>by have:=(hcs'.lt b e.symm).1;omega)
  have kG:=(low G (by omega)).trans (hW.block G hGl);have far:∀b,b≠G->(wN.setCell ⟨G,m*6,none⟩ (.slice (some ⟨g',0,none⟩) (ps.length+1) cap')).heap[b]?=wN.heap[b]?:=fun b hb=>Below.heap_setCell _ _ _ _ hb
  have kR:=(low R (by omega)).trans (hW.block R hRl);have kR2:=(far R (by omega)).trans kR;have kn:=(hg.block nb (by omega) (fun e=>by have:=(hcs.lt nb e.symm).2;omega)).trans (hW.block nb p1.2);have hrd:=hw.rd.keep kR2;rw[hva,hvm]at hrd;have hth:=fun o=>Kw HBO.own.choose_spec o
  refine⟨(Xc kG).trans (by rw[<-hm];exact HBO.c0),fun o=>(World.frozen?_of_block kG).trans (hth o),(Xc kn).trans p0,⟨hrd,⟨_,_,_,_,_,_,rfl,by show m+1=pre.length+1;rw[hm],hin⟩,fun o=>(World.frozen?_of_block kR2).trans (hw.fz o),⟨lo1,by rw[Xd];omega⟩⟩,Kb.low' (hg.os.trans hW.os) (hg.tape.trans hW.tape) (hg.output.trans hW.output) (by rw[Xd];omega) (fun b h1 h2=>(far b (by omega)).trans ((low b (by omega)).trans (hW.block b (by omega))))⟩)
 obtain⟨i0,hi0,hz0,hz1,hz2⟩:=info_parts Tryz.infoPhi2;have HBX:=fun x=>Xa (b1 x)
 have hHl:H<=w.heap.size:=by omega
 have p0a:=fun x=>((b1 x).cell (p:=⟨nb,no,none⟩) (by show nb<_;omega)).trans p0
 have g0a:=fun x=>HCL.out _ (b1 x)
 have g0b:=fun x y=>HCL.out _ (Xb (b1 x) y)
 have ex:0<nn:=by omega
 have ey:(1:Int)<=(nn:Int):=by omega
 have ez:¬nc=1:=by omega
 have nGb:G≠nb:=by omega
 have nbG:nb≠G:=by omega
 clear h hb hbo hw HBO HPO hcs hna hfz hnn hm HM b1 hvm hva hvn;unfold UL;generalize nums.getD 0 0=n0 at *;generalize ps.length=pl at *
 go_enter Tryz.func87,Tryz.ntmps87
 go_wp2_with (go_at_call 101;refine(HLA.out _).mono ?_;rintro e w1 ⟨rfl,hw1⟩;rw[hw1];clear hw1 w1)
 refine YZ (fun w'=>w'.cell? ⟨nb,no,none⟩=some (.int .i64 n0)) (fun hHeld=>?_);refine Xl 0 ?_;refine Xl 1 ?_;refine Xl 2 ?_;refine Xl 3 ?_;refine Xl 5 ?_;refine Xl 6 ?_;refine Xl 7 ?_;refine Xl 8 ?_;refine Xl 9 ?_;refine Xl 10 ?_;refine wpAnyH_ready (rs:=[4,11]) (by kernel_rfl) (by simp) ?_;refine(AllReadyH.cons rfl (fun K hK=>?_) (AllReadyH.cons rfl (fun K hK=>?_) AllReadyH.nil))
 ·skip
  go_simp;refine hK _ _ (by first | with_reducible exact hHeld | ((try dsimp only);go_keep)) (fun hHeld=>?_);clear hK
  try simp only[Act.put,xA,xB,xC,xD,xE,xF]
  refine Xw 11 (fun K hK=>?_);go_simp;refine hK _ _ (by first | with_reducible exact hHeld | ((try dsimp only);go_keep)) (fun hHeld=>?_);clear hK;refine Xw 12 (fun K hK=>?_);refine step_append_lies _ rfl (.tmp 37) (.tmp 44) 38 rfl H 46 i0 (.agg #[.int .i64 0,.slice none 0 0]) 2 32 Tryz.underlying38 hi0 hz0 hz1 hz2 rfl (by decide) (.slice pa pl pc) pl cs (by simp[Act.eval]) (HAP.out _ (Xb (HBX _).out _).drew.drew) ⟨w.heap.size+1,0,none⟩ 1 1 [.int .i64 n0,.slice (some ⟨nb,no+1,none⟩) (nn-1) (nc-1)] (by simp[Act.eval]) rfl (World.news_of_block (by have q:=Uv (w.alloc (.cells #[.int .i64 1,.int .i64 code] 128)) (.cells #[.int .i64 n0,.slice (some ⟨nb,no+1,none⟩) (nn-1) (nc-1)] 46);rw[World.size_alloc]at q;exact q)) (by intro u hu;simp at hu;rcases hu with rfl | rfl<;>rfl) (by decide) (by unfold maxLen;omega) (by omega) (by simp;omega) (w.heap.size+1+1) (by simp) ?_;intro g' cap' wN hown hgrow hat hlt2;obtain⟨d2,dz,dn,hrs,hkb⟩:=HGW.out _ _ _ _ (Xb (HBX _).out _).drew.drew hown hgrow (by simpa using hat);have HRS:=Xa hrs;have HKB:=Xa hkb;have dz0:=dz (m*6);clear hown hgrow hat hlt2 hrs hkb dz;refine hK _ _ (by first | with_reducible exact hHeld | ((try dsimp only);go_keep)) (fun hHeld=>?_);clear hK;refine Xl 13 ?_;refine Xl 14 ?_;refine Xw 15 (fun K hK=>?_);go_simp;refine hK _ _ (by first | with_reducible exact hHeld | ((try dsimp only);go_keep)) (fun hHeld=>?_);clear hK;refine Y7 ?_;go_wp2;exact bodyPost_end (v:=.tuple #[]) (by simp[results,Tryz.results87,go_sem]) rfl ⟨rfl,_,_,_,HRS.out,HKB.out⟩
 ·skip
  go_simp;refine hK _ _ (by first | with_reducible exact hHeld | ((try dsimp only);go_keep)) (fun hHeld=>?_);clear hK
  try simp only[Act.put,xA,xB,xC,xD,xE,xF]
  refine Xw 4 (fun K hK=>?_);go_simp;refine hK _ _ (by first | with_reducible exact hHeld | ((try dsimp only);go_keep)) (fun hHeld=>?_);clear hK;refine Xw 12 (fun K hK=>?_);refine step_append_lies _ rfl (.tmp 37) (.tmp 44) 38 rfl H 46 i0 (.agg #[.int .i64 0,.slice none 0 0]) 2 32 Tryz.underlying38 hi0 hz0 hz1 hz2 rfl (by decide) (.slice pa pl pc) pl cs (by simp[Act.eval]) (HAP.out _ (Xb (HBX _).out _).drew.drew) ⟨w.heap.size+1,0,none⟩ 1 1 [.int .i64 n0,.slice (some ⟨nb,no+1,none⟩) (nn-1) (nc-1)] (by simp[Act.eval]) rfl (World.news_of_block (by have q:=Uv (w.alloc (.cells #[.int .i64 1,.int .i64 code] 128)) (.cells #[.int .i64 n0,.slice (some ⟨nb,no+1,none⟩) (nn-1) (nc-1)] 46);rw[World.size_alloc]at q;exact q)) (by intro u hu;simp at hu;rcases hu with rfl | rfl<;>rfl) (by decide) (by unfold maxLen;omega) (by omega) (by simp;omega) (w.heap.size+1+1) (by simp) ?_;intro g' cap' wN hown hgrow hat hlt2;obtain⟨d2,dz,dn,hrs,hkb⟩:=HGW.out _ _ _ _ (Xb (HBX _).out _).drew.drew hown hgrow (by simpa using hat);have HRS:=Xa hrs;have HKB:=Xa hkb;have dz0:=dz (m*6);clear hown hgrow hat hlt2 hrs hkb dz;refine hK _ _ (by first | with_reducible exact hHeld | ((try dsimp only);go_keep)) (fun hHeld=>?_);clear hK;refine Xl 13 ?_;refine Xl 14 ?_;refine Xw 15 (fun K hK=>?_);go_simp;refine hK _ _ (by first | with_reducible exact hHeld | ((try dsimp only);go_keep)) (fun hHeld=>?_);clear hK;refine Y7 ?_;go_wp2;exact bodyPost_end (v:=.tuple #[]) (by simp[results,Tryz.results87,go_sem]) rfl ⟨rfl,_,_,_,HRS.out,HKB.out⟩
end Go.Proofs.YtkehcdfalcakmaaGreatDoor
