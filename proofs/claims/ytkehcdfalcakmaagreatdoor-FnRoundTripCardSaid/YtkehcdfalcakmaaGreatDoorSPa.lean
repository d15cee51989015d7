import Derived.Test.YtkehcdfalcakmaaGreatDoorDT2
namespace Go.Proofs.YtkehcdfalcakmaaGreatDoor
open Go.RowKit
def JA(w:World)(lab:Nat->Nat × Nat × Nat)(L:Nat × Nat × Nat)(base:Nat)(v:Value)(zs:List Int):Prop :=
 ∃a c,v=.slice a zs.length c/\∀i (h:i<zs.length),∃q o,a=some ⟨q,o,none⟩/\(base<=q/\q<w.heap.size)/\lab q=L/\w.cell? ⟨q,o+i,none⟩=some (.int .i64 zs[i])
theorem Xq.intsL{w:World}{lab:Nat->Nat × Nat × Nat}{L:Nat × Nat × Nat}{base:Nat}{v:Value}{zs:List Int}(h:Xq w lab L base 2 1 v zs.length (Xo zs)):JA w lab L base v zs:=by
 obtain⟨a,c,e⟩:=h.form;subst e;refine⟨a,c,rfl,fun i hi=>?_⟩;obtain⟨g,c',e⟩:=h.got (by omega);cases e;exact⟨g,0,rfl,h.blk.1,h.blk.2,by rw[Nat.zero_add];exact h.cell (by unfold Xo;simp[hi])⟩
theorem JA.sp{w w':World}{lab lab':Nat->Nat × Nat × Nat}{L:Nat × Nat × Nat}{base:Nat}{v:Value}{zs:List Int}{ok:Nat->Prop}(h:JA w lab L base v zs)(k:XK w w' lab lab' base ok)(ho:∀b,lab b=L->ok b):JA w' lab' L base v zs:=by
 obtain⟨a,c,e,h⟩:=h;refine⟨a,c,e,fun i hi=>?_⟩;obtain⟨q,o,e1,e2,e3,e4⟩:=h i hi;have:=k.same q e2.1 e2.2 (ho q e3);exact⟨q,o,e1,⟨e2.1,Nat.lt_of_lt_of_le e2.2 k.size⟩,this.2.trans e3,(Xc this.1).trans e4⟩
theorem JA.nil{w:World}{lab:Nat->Nat × Nat × Nat}{L:Nat × Nat × Nat}{base:Nat}:JA w lab L base (.slice none 0 0) []:=⟨none,0,rfl,fun i hi=>absurd hi (by simp)⟩
theorem Zin{w:World}{lab:Nat->Nat × Nat × Nat}{base g n c:Nat}{xs:List Xf}{pv iv:Nat->Value}{av:Nat->Nat->Value}(hb:Xq w lab (1,0,0) base 43 6 (.slice (some ⟨g,0,none⟩) n c) xs.length (Xy pv iv xs))(hph:∀i (h:i<xs.length),Xq w lab (2,i,0) base 46 2 (pv i) xs[i].phis.length (XU (av i) xs[i].phis))(hin:∀i (h:i<xs.length),Xq w lab (3,i,0) base 53 5 (iv i) xs[i].instrs.length (XD xs[i].instrs))(har:∀i (h:i<xs.length) j (hj:j<xs[i].phis.length),JA w lab (4,i,j) base (av i j) xs[i].phis[j].args):X8 w base w.heap.size (some ⟨g,0,none⟩) xs:=fun i hi=>by
 have hn:=ZM hb;subst hn;obtain⟨pa,pc,ep⟩:=(hph i hi).form;obtain⟨ia,ic,ei⟩:=(hin i hi).form;have cc:∀q u,q<6->(Tk (pv i) (iv i) xs[i].term)[q]?=some u->w.cell? ⟨g,i*6+q,none⟩=some u:=fun q u hq hu=>hb.cell (by
  unfold Xy;rw[Xu (fun _ _=>JZ _ _ _) 0 xs i hi q hq,Nat.zero_add];exact hu)
 refine⟨g,0,rfl,hb.blk.1,pa,pc,ia,ic,?_,?_,⟨?_,?_,?_,?_⟩,fun j hj=>?_,fun j hj=>?_⟩
 ·rw[Nat.zero_add];exact cc 0 _ (by omega) (by rw[<-ep];rfl)
 ·rw[Nat.zero_add];exact cc 1 _ (by omega) (by rw[<-ei];rfl)
 ·rw[Nat.zero_add];exact cc 2 _ (by omega) rfl
 ·rw[Nat.zero_add];exact cc 3 _ (by omega) rfl
 ·rw[Nat.zero_add];exact cc 4 _ (by omega) rfl
 ·rw[Nat.zero_add];exact cc 5 _ (by omega) rfl
 ·have hp:=hph i hi
  obtain⟨gp,cp,e⟩:=hp.got (by omega);rw[e]at ep hp;cases ep;obtain⟨aa,ac,ea,ha⟩:=har i hi j hj;have pc:∀q u,q<2->([.int .i64 xs[i].phis[j].dst,av i j]:List Value)[q]?=some u->w.cell? ⟨gp,j*2+q,none⟩=some u:=fun q u hq hu=>hp.cell (by
   unfold XU;rw[Xu (sz:=2) (fun _ _=>rfl) 0 xs[i].phis j hj q hq,Nat.zero_add];exact hu)
  refine⟨gp,0,rfl,hp.blk.1,aa,ac,by rw[Nat.zero_add];exact pc 0 _ (by omega) rfl,by rw[Nat.zero_add];exact pc 1 _ (by omega) (by rw[<-ea];rfl),fun m hm=>?_⟩;obtain⟨q,o,e1,e2,_,e4⟩:=ha m hm;exact⟨q,o,e1,e2,e4⟩
 ·have hp:=hin i hi
  obtain⟨gp,cp,e⟩:=hp.got (by omega);rw[e]at ei hp;cases ei;have pc:∀q u,q<5->(xs[i].instrs[j].cells)[q]?=some u->w.cell? ⟨gp,j*5+q,none⟩=some u:=fun q u hq hu=>hp.cell (by
   unfold XD;rw[Xu (sz:=5) (fun _ _=>rfl) 0 xs[i].instrs j hj q hq];exact hu)
  exact⟨gp,0,rfl,hp.blk.1,by rw[Nat.zero_add];exact pc 0 _ (by omega) rfl,by rw[Nat.zero_add];exact pc 1 _ (by omega) rfl,by rw[Nat.zero_add];exact pc 2 _ (by omega) rfl,by rw[Nat.zero_add];exact pc 3 _ (by omega) rfl,by rw[Nat.zero_add];exact pc 4 _ (by omega) rfl⟩
theorem Zd7{pv iv:Nat->Value}{xs:List Xf}{i:Nat}(hi:i<xs.length)(x:Xf)(p q:Value):Xy (fun j=>if j=i then p else pv j) (fun j=>if j=i then q else iv j) (xs.set i x)=((((((Xy pv iv xs).set (i*6) p).set (i*6+1) q).set (i*6+2) (.int .i64 x.term.kind)).set (i*6+3) (.int .i64 x.term.a)).set (i*6+4) (.int .i64 x.term.to)).set (i*6+5) (.int .i64 x.term.els):=by
 refine List.ext_getElem? (fun r=>?_);have hl:(Xy pv iv xs).length=xs.length*6:=Zc (sz:=6) (fun _ _=>rfl) _ _;have hl2:(Xy (fun j=>if j=i then p else pv j) (fun j=>if j=i then q else iv j) (xs.set i x)).length=xs.length*6:=(Zc (sz:=6) (fun _ _=>rfl) 0 (xs.set i x)).trans (by simp);by_cases hr:r<xs.length*6
 ·have hj:r / 6<xs.length:=by omega
  have hjs:r / 6<(xs.set i x).length:=by simpa using hj
  have er:r=r / 6*6+r % 6:=by omega
  have hm:r % 6<6:=Nat.mod_lt _ (by decide);generalize r / 6=j at *;generalize r % 6=m at *;subst er;have k1:(Xy (fun j=>if j=i then p else pv j) (fun j=>if j=i then q else iv j) (xs.set i x))[j*6+m]?=(Tk (if j=i then p else pv j) (if j=i then q else iv j) (xs.set i x)[j].term)[m]?:=by
   unfold Xy;rw[Xu (sz:=6) (fun _ _=>rfl) 0 (xs.set i x) j (by simpa using hj) m hm,Nat.zero_add]
  rw[k1];by_cases e:j=i
  ·subst e
   rw[if_pos rfl,if_pos rfl,List.getElem_set_self];simp only[List.getElem?_set,hl]
   match m,hm with
   | 0,_=>simp[Tk];omega
   | 1,_=>simp[Tk];omega
   | 2,_=>simp[Tk];omega
   | 3,_=>simp[Tk];omega
   | 4,_=>simp[Tk];omega
   | 5,_=>simp[Tk];omega
  ·rw[if_neg e,if_neg e,List.getElem_set_ne (fun e2=>e e2.symm)]
   rw[List.getElem?_set_ne (by omega),List.getElem?_set_ne (by omega),List.getElem?_set_ne (by omega),List.getElem?_set_ne (by omega),List.getElem?_set_ne (by omega),List.getElem?_set_ne (by omega)];unfold Xy;rw[Xu (sz:=6) (fun _ _=>rfl) 0 xs j hj m hm,Nat.zero_add]
 ·rw[List.getElem?_eq_none (by omega),List.getElem?_eq_none (by simp only[List.length_set];omega)]
structure Zi(w wr:World)(lab:Nat->Nat × Nat × Nat)(base sb B:Nat)(s:Sr)(V:Int)(G n c:Nat)(xs:List Xf)(pv iv:Nat->Value)(av:Nat->Nat->Value)(b xb:Nat)(p:Value)(y:Xf)(ay:Nat->Value):Prop where
 blks:Xq wr lab (1,0,0) base 43 6 (.slice (some ⟨G,0,none⟩) n c) xs.length (Xy pv iv xs)
 phis:∀i (h:i<xs.length),i≠b->Xq wr lab (2,i,0) base 46 2 (pv i) xs[i].phis.length (XU (av i) xs[i].phis)
 ins:∀i (h:i<xs.length),i≠b->Xq wr lab (3,i,0) base 53 5 (iv i) xs[i].instrs.length (XD xs[i].instrs)
 args:∀i (h:i<xs.length) j (hj:j<xs[i].phis.length),i≠b->JA wr lab (4,i,j) base (av i j) xs[i].phis[j].args
 yph:Xq wr lab (2,b,0) base 46 2 p y.phis.length (XU ay y.phis)
 yin:Xq wr lab (3,b,0) base 53 5 (iv b) y.instrs.length (XD y.instrs)
 yar:∀j (hj:j<y.phis.length),JA wr lab (4,b,j) base (ay j) y.phis[j].args
 dr:Zs wr sb B s
 bb:B<=base
 os:wr.os=w.os
 tape:wr.tape=w.tape
 output:wr.output=w.output
 size:w.heap.size<=wr.heap.size
 low:∀q,q<base->q≠sb->wr.heap[q]?=w.heap[q]?
 fr:∀q,wr.heap.size<=q->lab q=(0,0,0)
 bs:base<=w.heap.size
 box:Bx wr w.heap.size #[.int .i64 V,.slice (some ⟨G,0,none⟩) n c] 25
 boxl:lab w.heap.size=(0,0,0)
 res:Bx wr (w.heap.size+1) #[.int .i64 0,.slice none 0 0] 25
 resl:lab (w.heap.size+1)=(0,0,0)
 xbx:Bx wr xb #[p,iv b,.int .i64 y.term.kind,.int .i64 y.term.a,.int .i64 y.term.to,.int .i64 y.term.els] 43
 xbl:lab xb=(0,0,0)
 xlt:w.heap.size+1<xb
variable {w wr w' : World} {lab lab' : Nat -> Nat × Nat × Nat} {base sb B : Nat} {s s' : Sr} {V V' : Int} {G n c : Nat} {xs : List Xf} {pv iv : Nat -> Value} {av : Nat -> Nat -> Value} {b xb : Nat} {p p' : Value} {y y' : Xf} {ay ay' : Nat -> Value}
theorem Zi.step{ok:Nat->Prop}(h:Zi w wr lab base sb B s V G n c xs pv iv av b xb p y ay)(k:XK wr w' lab lab' base ok)(hok:∀q,(lab q).1≠0->(lab q).2.1≠b\/(lab q).1=1->ok q)
 (yph:Xq w' lab' (2,b,0) base 46 2 p' y'.phis.length (XU ay' y'.phis)) (yin:Xq w' lab' (3,b,0) base 53 5 (iv b) y'.instrs.length (XD y'.instrs)) (yar:∀j (hj:j<y'.phis.length),JA w' lab' (4,b,j) base (ay' j) y'.phis[j].args)
 (dr:Zs w' sb B s') (os:w'.os=wr.os) (tape:w'.tape=wr.tape) (output:w'.output=wr.output) (low:∀q,q<base->q≠sb->w'.heap[q]?=wr.heap[q]?)
 (box:Bx w' w.heap.size #[.int .i64 V',.slice (some ⟨G,0,none⟩) n c] 25) (boxl:lab' w.heap.size=(0,0,0)) (res:Bx w' (w.heap.size+1) #[.int .i64 0,.slice none 0 0] 25) (resl:lab' (w.heap.size+1)=(0,0,0)) (xbx:Bx w' xb #[p',iv b,.int .i64 y'.term.kind,.int .i64 y'.term.a,.int .i64 y'.term.to,.int .i64 y'.term.els] 43) (xbl:lab' xb=(0,0,0)):Zi w w' lab' base sb B s' V' G n c xs pv iv av b xb p' y' ay':=by
 refine⟨h.blks.sp k (fun q e=>hok q (by rw[e];simp) (Or.inr (by rw[e]))),fun i hi hne=>(h.phis i hi hne).sp k (fun q e=>hok q (by rw[e];simp) (Or.inl (by rw[e];exact hne))),fun i hi hne=>(h.ins i hi hne).sp k (fun q e=>hok q (by rw[e];simp) (Or.inl (by rw[e];exact hne))),fun i hi j hj hne=>(h.args i hi j hj hne).sp k (fun q e=>hok q (by rw[e];simp) (Or.inl (by rw[e];exact hne))),yph,yin,yar,dr,h.bb,os.trans h.os,tape.trans h.tape,output.trans h.output,Nat.le_trans h.size k.size,fun q h1 h2=>(low q h1 h2).trans (h.low q h1 h2),k.fresh h.fr,h.bs,box,boxl,res,resl,xbx,xbl,h.xlt⟩
theorem Zi.lt(h:Zi w wr lab base sb B s V G n c xs pv iv av b xb p y ay):sb<base:=by have:=h.bb;have:=h.dr.bB;omega
theorem Zi.call(h:Zi w wr lab base sb B s V G n c xs pv iv av b xb p y ay)(g:wr.grownBy w' (some sb))(d:Zs w' sb B s'):Zi w w' lab base sb B s' V G n c xs pv iv av b xb p y ay:=by
 have k:XK wr w' lab lab base (fun _=>True):=XK.grown g h.lt;have hl:=h.lt;have hb:=h.bs;have hx:=h.xlt;have hs:=h.size;exact h.step k (fun _ _ _=>trivial) (h.yph.sp k (fun _ _=>trivial)) (h.yin.sp k (fun _ _=>trivial)) (fun j hj=>(h.yar j hj).sp k (fun _ _=>trivial)) d g.os g.tape g.output (fun q h1 h2=>g.block q (by omega) (fun e=>h2 (by injection e))) (h.box.grown g (by intro e;injection e;omega)) h.boxl (h.res.grown g (by intro e;injection e;omega)) h.resl (h.xbx.grown g (by intro e;injection e;omega)) h.xbl
theorem Zi.drew(h:Zi w wr lab base sb B s V G n c xs pv iv av b xb p y ay):Zi w wr.drew lab base sb B s V G n c xs pv iv av b xb p y ay:=h.call ⟨rfl,rfl,rfl,Nat.le_refl _,fun _ _ _=>rfl⟩ h.dr.drew
theorem Zi.alloc(h:Zi w wr lab base sb B s V G n c xs pv iv av b xb p y ay)(o:Obj):Zi w (wr.alloc o) lab base sb B s V G n c xs pv iv av b xb p y ay:=h.call (World.grownBy_alloc wr o (some sb)) (h.dr.box o)
theorem Zi.putB{g q:Nat}{u:Value}{t:XN}(h:Zi w wr lab base sb B s V G n c xs pv iv av b xb p y ay)(hg:lab g=(0,0,0))(hgb:base<=g)(hgr:w.heap.size+1≠g)
 (box:Bx (wr.setCell ⟨g,q,none⟩ u) w.heap.size #[.int .i64 V',.slice (some ⟨G,0,none⟩) n c] 25) (xbx:Bx (wr.setCell ⟨g,q,none⟩ u) xb #[p,iv b,.int .i64 t.kind,.int .i64 t.a,.int .i64 t.to,.int .i64 t.els] 43):Zi w (wr.setCell ⟨g,q,none⟩ u) lab base sb B s V' G n c xs pv iv av b xb p ⟨y.phis,y.instrs,t⟩ ay:=by
 have k:XK wr (wr.setCell ⟨g,q,none⟩ u) lab lab base (fun b=>b≠g):=XK.put g q u;have nb:∀q,(lab q).1≠0->q≠g:=fun q h1 e=>h1 (by rw[e,hg])
 have:=h.bb;exact h.step k (fun q h1 _=>nb q h1) (h.yph.sp k (fun q e=>nb q (by rw[e];simp))) (h.yin.sp k (fun q e=>nb q (by rw[e];simp))) (fun j hj=>(h.yar j hj).sp k (fun q e=>nb q (by rw[e];simp))) (h.dr.put (by omega)) rfl rfl rfl (fun q h1 _=>Below.heap_setCell _ _ _ _ (by show q≠g;omega)) box h.boxl (h.res.other hgr) h.resl xbx h.xbl
theorem Zi.putV(h:Zi w wr lab base sb B s V G n c xs pv iv av b xb p y ay)(z:Int):Zi w (wr.setCell ⟨w.heap.size,0,none⟩ (.int .i64 z)) lab base sb B s z G n c xs pv iv av b xb p y ay:=by
 have:=h.xlt;refine h.putB (t:=y.term) h.boxl h.bs (by omega) ?_ (h.xbx.other (by omega));have:=h.box.set 0 (.int .i64 z);simpa using this
theorem Zi.putT(h:Zi w wr lab base sb B s V G n c xs pv iv av b xb p y ay)(t:XN)(q:Nat)(u:Value)(hq:(#[p,iv b,.int .i64 y.term.kind,.int .i64 y.term.a,.int .i64 y.term.to,.int .i64 y.term.els]:Array Value).setIfInBounds q u=#[p,iv b,.int .i64 t.kind,.int .i64 t.a,.int .i64 t.to,.int .i64 t.els]):Zi w (wr.setCell ⟨xb,q,none⟩ u) lab base sb B s V G n c xs pv iv av b xb p ⟨y.phis,y.instrs,t⟩ ay:=by
 have:=h.xlt;have:=h.bs;refine h.putB h.xbl (by omega) (by omega) (h.box.other (by omega)) ?_;have:=h.xbx.set q u;rw[hq]at this;exact this
structure Vh(w w':World)(base sb:Nat)(a:Option Addr)(xs:List Xf):Prop where
 at_:X8 w' base w'.heap.size a xs
 os:w'.os=w.os
 tape:w'.tape=w.tape
 output:w'.output=w.output
 size:w.heap.size<=w'.heap.size
 low:∀q,q<base->q≠sb->w'.heap[q]?=w.heap[q]?
theorem Zi.done{u0 u1:Value}(h:Zi w wr lab base sb B s V G n c xs pv iv av b xb p y ay)(hb:b<xs.length):Vh w ((((((((wr.setCell ⟨G,b*6,none⟩ p).setCell ⟨G,b*6+1,none⟩ (iv b)).setCell ⟨G,b*6+2,none⟩ (.int .i64 y.term.kind)).setCell ⟨G,b*6+3,none⟩ (.int .i64 y.term.a)).setCell ⟨G,b*6+4,none⟩ (.int .i64 y.term.to)).setCell ⟨G,b*6+5,none⟩ (.int .i64 y.term.els)).setCell ⟨w.heap.size+1,0,none⟩ u0).setCell ⟨w.heap.size+1,1,none⟩ u1) base sb (some ⟨G,0,none⟩) (xs.set b y):=by
 have hnl:=ZM h.blks;subst hnl;have hgl:=h.blks.blk.2;have hgb:=h.blks.blk.1.1;have hbs:=h.bs;have k6:XK wr ((((((wr.setCell ⟨G,b*6,none⟩ p).setCell ⟨G,b*6+1,none⟩ (iv b)).setCell ⟨G,b*6+2,none⟩ (.int .i64 y.term.kind)).setCell ⟨G,b*6+3,none⟩ (.int .i64 y.term.a)).setCell ⟨G,b*6+4,none⟩ (.int .i64 y.term.to)).setCell ⟨G,b*6+5,none⟩ (.int .i64 y.term.els)) lab lab base (fun b=>b≠G) :=
  ((((((XK.put G _ _).trans (XK.put G _ _)).trans (XK.put G _ _)).trans (XK.put G _ _)).trans (XK.put G _ _)).trans (XK.put G _ _)).weak (fun b hb=>⟨⟨⟨⟨⟨hb,hb⟩,hb⟩,hb⟩,hb⟩,hb⟩)
 have k2:XK ((((((wr.setCell ⟨G,b*6,none⟩ p).setCell ⟨G,b*6+1,none⟩ (iv b)).setCell ⟨G,b*6+2,none⟩ (.int .i64 y.term.kind)).setCell ⟨G,b*6+3,none⟩ (.int .i64 y.term.a)).setCell ⟨G,b*6+4,none⟩ (.int .i64 y.term.to)).setCell ⟨G,b*6+5,none⟩ (.int .i64 y.term.els)) ((((((((wr.setCell ⟨G,b*6,none⟩ p).setCell ⟨G,b*6+1,none⟩ (iv b)).setCell ⟨G,b*6+2,none⟩ (.int .i64 y.term.kind)).setCell ⟨G,b*6+3,none⟩ (.int .i64 y.term.a)).setCell ⟨G,b*6+4,none⟩ (.int .i64 y.term.to)).setCell ⟨G,b*6+5,none⟩ (.int .i64 y.term.els)).setCell ⟨w.heap.size+1,0,none⟩ u0).setCell ⟨w.heap.size+1,1,none⟩ u1) lab lab base (fun b=>b≠w.heap.size+1):=((XK.put _ _ _).trans (XK.put _ _ _)).weak (fun b hb=>⟨hb,hb⟩);have nr:∀q,(lab q).1≠0->q≠w.heap.size+1:=fun q h1 e=>h1 (by rw[e,h.resl])
 have ng:∀q,(lab q).1≠0->lab q≠(1,0,0)->q≠G/\q≠w.heap.size+1:=fun q h1 hb=>⟨fun e=>hb (by rw[e];exact hgl),nr q h1⟩
 have k:=k6.trans k2;have hbl:=(((((h.blks.set (b*6) p).set (b*6+1) (iv b)).set (b*6+2) (.int .i64 y.term.kind)).set (b*6+3) (.int .i64 y.term.a)).set (b*6+4) (.int .i64 y.term.to)).set (b*6+5) (.int .i64 y.term.els);rw[<-Zd7 hb]at hbl;have hg1:base<=w.heap.size+1:=by omega
 have hB:=((((((((Below.refl base wr).setCell (p:=⟨G,b*6,none⟩) hgb p).setCell (p:=⟨G,b*6+1,none⟩) hgb (iv b)).setCell (p:=⟨G,b*6+2,none⟩) hgb (.int .i64 y.term.kind)).setCell (p:=⟨G,b*6+3,none⟩) hgb (.int .i64 y.term.a)).setCell (p:=⟨G,b*6+4,none⟩) hgb (.int .i64 y.term.to)).setCell (p:=⟨G,b*6+5,none⟩) hgb (.int .i64 y.term.els)).setCell (p:=⟨w.heap.size+1,0,none⟩) hg1 u0).setCell (p:=⟨w.heap.size+1,1,none⟩) hg1 u1;have hbl2:=hbl.sp k2 (fun q e=>nr q (by rw[e];simp));refine⟨Zin (xs:=xs.set b y) (n:=xs.length) (c:=c) (pv:=fun j=>if j=b then p else pv j) (iv:=fun j=>if j=b then iv b else iv j) (av:=fun j=>if j=b then ay else av j) (by rw[List.length_set];exact hbl2) (fun i hi=>?_) (fun i hi=>?_) (fun i hi j hj=>?_),hB.os.trans h.os,hB.tape.trans h.tape,hB.output.trans h.output,Nat.le_trans h.size hB.size,fun q h1 h2=>(hB.block q h1).trans (h.low q h1 h2)⟩
 ·by_cases e:i=b
  ·subst e
   simp only[if_pos,List.getElem_set_self];exact h.yph.sp k (fun b e=>ng b (by rw[e];simp) (by rw[e];simp))
  ·simp only[if_neg e,List.getElem_set_ne (fun e2=>e e2.symm)]
   exact(h.phis i (by simpa using hi) e).sp k (fun b e=>ng b (by rw[e];simp) (by rw[e];simp))
 ·by_cases e:i=b
  ·subst e
   simp only[if_pos,List.getElem_set_self];exact h.yin.sp k (fun b e=>ng b (by rw[e];simp) (by rw[e];simp))
  ·simp only[if_neg e,List.getElem_set_ne (fun e2=>e e2.symm)]
   exact(h.ins i (by simpa using hi) e).sp k (fun b e=>ng b (by rw[e];simp) (by rw[e];simp))
 ·by_cases e:i=b
  ·subst e
   simp only[List.getElem_set_self]at hj |-;simp only[if_pos];exact(h.yar j hj).sp k (fun b e=>ng b (by rw[e];simp) (by rw[e];simp))
  ·simp only[List.getElem_set_ne (fun e2=>e e2.symm)]at hj |-
   simp only[if_neg e];exact(h.args i (by simpa using hi) j hj e).sp k (fun b e=>ng b (by rw[e];simp) (by rw[e];simp))
theorem Wc.hand{v:Nat}(h:Wc w wr lab base sb B s v G n c xs pv iv av)(hb:b<xs.length):Zi w (wr.alloc (.cells #[pv b,iv b,.int .i64 xs[b].term.kind,.int .i64 xs[b].term.a,.int .i64 xs[b].term.to,.int .i64 xs[b].term.els] 43)) lab base sb B s (v:Int) G n c xs pv iv av b wr.heap.size (pv b) xs[b] (av b):=by
 have h0:=h.alloc (.cells #[pv b,iv b,.int .i64 xs[b].term.kind,.int .i64 xs[b].term.a,.int .i64 xs[b].term.to,.int .i64 xs[b].term.els] 43);exact⟨h0.fn.blks,fun i hi _=>h0.fn.phis i hi,fun i hi _=>h0.fn.ins i hi,fun i hi j hj _=>(h0.fn.args i hi j hj).intsL,h0.fn.phis b hb,h0.fn.ins b hb,fun j hj=>(h0.fn.args b hb j hj).intsL,h0.dr,h0.bb,h0.os,h0.tape,h0.output,h0.size,h0.low,fun q hq=>h0.fr q (Nat.le_trans h0.size hq),h0.bs,h0.box,h0.fr _ (Nat.le_refl _),h0.res,h0.fr _ (by omega),Bx.new _ _ _,h0.fr _ h.size,h.res.lt⟩
end Go.Proofs.YtkehcdfalcakmaaGreatDoor
namespace Go.Proofs.YtkehcdfalcakmaaGreatDoor
open Go.RowKit
variable {w wr w' w8 : World} {lab lab' : Nat -> Nat × Nat × Nat} {base sb B : Nat} {s s' : Sr} {V V' : Int} {G n c : Nat} {xs : List Xf} {pv iv : Nat -> Value} {av : Nat -> Nat -> Value} {b xb : Nat} {p p' : Value} {y y' : Xf} {ay ay' : Nat -> Value}
theorem Uu{ps:List Ph}{j:Nat}{q:Ph}{v:Value}(hj:j<ps.length)(hq:q.dst=ps[j].dst):XU (fun m=>if m=j then v else ay m) (ps.set j q)=(XU ay ps).set (j*2+1) v:=by
 unfold XU;exact Ye (f:=fun j (p:Ph)=>[Value.int .i64 p.dst,ay j]) (f':=fun j (p:Ph)=>[Value.int .i64 p.dst,if j=_ then v else ay j]) (sz:=2) (fun _ _=>rfl) 0 ps j hj q 1 v (by omega) (by rw[Nat.zero_add,if_pos rfl,hq];rfl) (fun m hm hne=>by rw[Nat.zero_add,if_neg hne])
theorem Zi.setPh{gp np pc j:Nat}{v:Value}{zs:List Int}(h:Zi w wr lab base sb B s V G n c xs pv iv av b xb p y ay)(hp:p=.slice (some ⟨gp,0,none⟩) np pc)(hj:j<y.phis.length)(hz:JA wr lab (4,b,j) base v zs) :
 Zi w (wr.setCell ⟨gp,j*2+1,none⟩ v) lab base sb B s V G n c xs pv iv av b xb p ⟨y.phis.set j ⟨y.phis[j].dst,zs⟩,y.instrs,y.term⟩ (fun m=>if m=j then v else ay m):=by
 subst hp;have hy:=h.yph;have hn:=ZM hy;subst hn;have hgl:=hy.blk.2;have hgb:=hy.blk.1.1;have k:XK wr (wr.setCell ⟨gp,j*2+1,none⟩ v) lab lab base (fun b=>b≠gp):=XK.put gp _ v;have nb:∀q,lab q≠(2,b,0)->q≠gp:=fun q h1 e=>h1 (by rw[e,hgl])
 have:=h.bb;have n1:w.heap.size≠gp:=nb _ (by rw[h.boxl];simp);have n2:xb≠gp:=nb _ (by rw[h.xbl];simp);refine h.step k (fun q h1 h2=>nb q (fun e=>by rw[e]at h2;simp at h2)) ?_ (h.yin.sp k (fun q e=>nb q (by rw[e];simp))) (fun m hm=>?_) (h.dr.put (by omega)) rfl rfl rfl (fun q h1 _=>Below.heap_setCell _ _ _ _ (by show q≠gp;omega)) (h.box.other n1) h.boxl (h.res.other (nb _ (by rw[h.resl];simp))) h.resl (h.xbx.other n2) h.xbl
 ·have hs:=hy.set (j*2+1) v
  show Xq _ lab (2,b,0) base 46 2 _ (y.phis.set j ⟨y.phis[j].dst,zs⟩).length (XU (fun m=>if m=j then v else ay m) (y.phis.set j ⟨y.phis[j].dst,zs⟩));rw[List.length_set,Uu (q:=⟨y.phis[j].dst,zs⟩) hj rfl];exact hs
 ·by_cases e:m=j
  ·subst e
   simp only[List.getElem_set_self,if_pos];exact hz.sp k (fun q e=>nb q (by rw[e];simp))
  ·simp only[List.getElem_set_ne (fun e2=>e e2.symm),if_neg e]
   exact(h.yar m (by simpa using hm)).sp k (fun q e=>nb q (by rw[e];simp))
theorem Zi.push{o:Obj}{n':Nat}{p8:Value}(h:Zi w wr lab base sb B s V G n c xs pv iv av b xb p y ay)(hg:(wr.alloc o).grownBy w8 p.ownBlock)(ho:w8.ownsRow base 46 2 p8 n' (XU ay y.phis++[.int .i64 0,.slice none 0 0]))(hn:n'=y.phis.length+1)(hat:p8.ownBlock=p.ownBlock\/p8.ownBlock=some (wr.alloc o).heap.size) :
 Bx w8 xb #[p,iv b,.int .i64 y.term.kind,.int .i64 y.term.a,.int .i64 y.term.to,.int .i64 y.term.els] 43/\∃lab',Zi w (w8.setCell ⟨xb,0,none⟩ p8) lab' base sb B s V G n c xs pv iv av b xb p8 ⟨y.phis++[⟨0,[]⟩],y.instrs,y.term⟩ (fun j=>if j=y.phis.length then .slice none 0 0 else ay j):=by
 have h0:=h.alloc o;obtain⟨lab',hr,k1⟩:=h0.yph.grow hg ho hat h0.fr;have hbb:=h.bb;have hbs:=h.bs;have hx:=h.xlt;have hsz:=h0.size;have sm:∀q,base<=q->q<(wr.alloc o).heap.size->lab q≠(2,b,0)->w8.heap[q]?=(wr.alloc o).heap[q]?/\lab' q=lab q:=fun q h1 h2 h3=>k1.same q h1 h2 h3
 have sx:=sm xb (by omega) h0.xbx.lt (by rw[h0.xbl];simp);have sb0:=sm w.heap.size hbs h0.box.lt (by rw[h0.boxl];simp);have sr0:=sm (w.heap.size+1) (by omega) h0.res.lt (by rw[h0.resl];simp);have hxb:=h0.xbx.keep sx.1;have hlow:∀q,q<base->w8.heap[q]?=(wr.alloc o).heap[q]?:=fun q hq=>hg.block q (by have:=h0.size;omega) (fun e=>by have:=(h0.yph.own.lt q e.symm).1;omega)
 have k2:XK w8 (w8.setCell ⟨xb,0,none⟩ p8) lab' lab' base (fun q=>q≠xb):=XK.put xb 0 p8;have hxl:lab' xb=(0,0,0):=sx.2.trans h0.xbl;have nb:∀q,(lab' q).1≠0->q≠xb:=fun q h1 e=>h1 (by rw[e,hxl])
 have k:=k1.trans k2;have okk:∀q,(lab q).1≠0->lab q≠(2,b,0)->lab q≠(2,b,0)/\q≠xb:=fun q h1 h2=>⟨h2,fun e=>h1 (by rw[e,h0.xbl])⟩
 refine⟨hxb,lab',h0.step k (fun q h1 h2=>okk q h1 (fun e=>by rw[e]at h2;simp at h2)) ?_ (h0.yin.sp k (fun q e=>okk q (by rw[e];simp) (by rw[e];simp))) (fun m hm=>?_) ?_ hg.os hg.tape hg.output (fun q h1 _=>(Below.heap_setCell _ _ _ _ (by show q≠xb;omega)).trans (hlow q h1)) ((h0.box.keep sb0.1).other (by omega)) (sb0.2.trans h0.boxl) ((h0.res.keep sr0.1).other (by omega)) (sr0.2.trans h0.resl) ?_ hxl⟩
 ·subst hn
  have e:XU (fun j=>if j=y.phis.length then .slice none 0 0 else ay j) (y.phis++[⟨0,[]⟩])=XU ay y.phis++[.int .i64 0,.slice none 0 0]:=by
   unfold XU;rw[Y8,Nat.zero_add];dsimp only;rw[if_pos rfl,Z2 (f':=fun j (p:Ph)=>[Value.int .i64 p.dst,ay j]) 0 y.phis (fun i hi=>by rw[Nat.zero_add,if_neg (by omega)])]
  show Xq _ lab' (2,b,0) base 46 2 p8 (y.phis++[(⟨0,[]⟩:Ph)]).length (XU (fun j=>if j=y.phis.length then .slice none 0 0 else ay j) (y.phis++[(⟨0,[]⟩:Ph)]));rw[e,List.length_append];exact hr.sp k2 (fun q e=>nb q (by rw[e];simp))
 ·by_cases e:m<y.phis.length
  ·simp only[List.getElem_append_left e,if_neg (Nat.ne_of_lt e)]
   exact(h0.yar m e).sp k (fun q e=>okk q (by rw[e];simp) (by rw[e];simp))
  ·have hme:m=y.phis.length:=by simp at hm;omega
   subst hme;simp only[List.getElem_append_right (Nat.le_refl _),if_pos,Nat.sub_self,List.getElem_cons_zero];exact JA.nil
 ·refine Zs.put (h0.dr.keep ⟨hg.os,hg.tape,hg.output,hg.size,fun q hq=>hlow q (by omega)⟩) (by omega)
 ·have:=hxb.set 0 p8
  simpa using this
theorem Zi.push0{o:Obj}{n' gp np pc:Nat}{v v8:Value}{zs:List Int}(h:Zi w wr lab base sb B s V G n c xs pv iv av b xb p y ay)(hp:p=.slice (some ⟨gp,0,none⟩) np pc)(hj:0<y.phis.length)(hr0:Xq wr lab (4,b,0) base 2 1 v zs.length (Xo zs))(hg:(wr.alloc o).grownBy w8 v.ownBlock)(ho:w8.ownsRow base 2 1 v8 n' (Xo zs++[.int .i64 0]))(hn:n'=zs.length+1)(hat:v8.ownBlock=v.ownBlock\/v8.ownBlock=some (wr.alloc o).heap.size) :
 (Bx w8 xb #[p,iv b,.int .i64 y.term.kind,.int .i64 y.term.a,.int .i64 y.term.to,.int .i64 y.term.els] 43/\w8.cell? ⟨gp,1,none⟩=some (ay 0)/\w8.frozen? ⟨gp,1,none⟩=false)/\∃lab',Zi w (w8.setCell ⟨gp,1,none⟩ v8) lab' base sb B s V G n c xs pv iv av b xb p ⟨y.phis.set 0 ⟨y.phis[0].dst,zs++[0]⟩,y.instrs,y.term⟩ (fun m=>if m=0 then v8 else ay m):=by
 have h0:=h.alloc o;have hr1:Xq (wr.alloc o) lab (4,b,0) base 2 1 v zs.length (Xo zs):=hr0.sp (XK.box o) (fun _ _=>trivial);obtain⟨lab',hr,k1⟩:=hr1.grow hg ho hat h0.fr;have hbb:=h.bb;have hbs:=h.bs;have hx:=h.xlt;have hsz:=h0.size;have sm:∀q,base<=q->q<(wr.alloc o).heap.size->lab q≠(4,b,0)->w8.heap[q]?=(wr.alloc o).heap[q]?/\lab' q=lab q:=fun q h1 h2 h3=>k1.same q h1 h2 h3
 have sx:=sm xb (by omega) h0.xbx.lt (by rw[h0.xbl];simp);have sb0:=sm w.heap.size hbs h0.box.lt (by rw[h0.boxl];simp);have sr0:=sm (w.heap.size+1) (by omega) h0.res.lt (by rw[h0.resl];simp);have hxb:=h0.xbx.keep sx.1;have hlow:∀q,q<base->w8.heap[q]?=(wr.alloc o).heap[q]?:=fun q hq=>hg.block q (by omega) (fun e=>by have:=(hr1.own.lt q e.symm).1;omega)
 subst hp;have hy8:Xq w8 lab' (2,b,0) base 46 2 (.slice (some ⟨gp,0,none⟩) np pc) y.phis.length (XU ay y.phis):=h0.yph.sp k1 (fun q e=>by rw[e];simp);have hnp:=ZM hy8;subst hnp;have hgl:=hy8.blk.2;have hgb:=hy8.blk.1.1;have hgl0:=h0.yph.blk.2;have k2:XK w8 (w8.setCell ⟨gp,1,none⟩ v8) lab' lab' base (fun q=>q≠gp):=XK.put gp 1 v8;have nb:∀q,lab' q≠(2,b,0)->q≠gp:=fun q h1 e=>h1 (by rw[e,hgl])
 have nb0:∀q,lab q≠(2,b,0)->q≠gp:=fun q h1 e=>h1 (by rw[e,hgl0])
 have k:=k1.trans k2;have hcell:w8.cell? ⟨gp,1,none⟩=some (ay 0):=hy8.cell (by
  unfold XU;have:=Xu (sz:=2) (f:=fun j (p:Ph)=>[Value.int .i64 p.dst,ay j]) (fun _ _=>rfl) 0 y.phis 0 hj 1 (by omega);rw[Nat.zero_mul,Nat.zero_add]at this;rw[this];rfl)
 refine⟨⟨hxb,hcell,hy8.thaw 1⟩,lab',h0.step k (fun q h1 h2=>⟨fun e=>by rw[e]at h2;simp at h2,nb0 q (fun e=>by rw[e]at h2;simp at h2)⟩) ?_ (h0.yin.sp k (fun q e=>⟨by rw[e];simp,nb0 q (by rw[e];simp)⟩)) (fun m hm=>?_) ?_ hg.os hg.tape hg.output (fun q h1 _=>(Below.heap_setCell _ _ _ _ (by show q≠gp;omega)).trans (hlow q h1)) ((h0.box.keep sb0.1).other (nb0 _ (by rw[h0.boxl];simp))) (sb0.2.trans h0.boxl) ((h0.res.keep sr0.1).other (nb0 _ (by rw[h0.resl];simp))) (sr0.2.trans h0.resl) (hxb.other (nb0 _ (by rw[h0.xbl];simp))) (sx.2.trans h0.xbl)⟩
 ·show Xq _ lab' (2,b,0) base 46 2 _ (y.phis.set 0 ⟨y.phis[0].dst,zs++[0]⟩).length (XU (fun m=>if m=0 then v8 else ay m) (y.phis.set 0 ⟨y.phis[0].dst,zs++[0]⟩))
  rw[List.length_set,Uu (q:=⟨y.phis[0].dst,zs++[0]⟩) hj rfl];exact hy8.set 1 v8
 ·by_cases e:m=0
  ·subst e
   simp only[List.getElem_set_self,if_pos];refine JA.sp (Xq.intsL ?_) k2 (fun q e=>nb q (by rw[e];simp));subst hn;have e2:Xo (zs++[0])=Xo zs++[.int .i64 0]:=by simp[Xo]
   rw[e2,List.length_append];exact hr
  ·simp only[List.getElem_set_ne (fun e2=>e e2.symm),if_neg e]
   exact(h0.yar m (by simpa using hm)).sp k (fun q e3=>⟨by rw[e3];simp;exact e,nb0 q (by rw[e3];simp)⟩)
 ·exact Zs.put (h0.dr.keep ⟨hg.os,hg.tape,hg.output,hg.size,fun q hq=>hlow q (by omega)⟩) (by omega)
theorem Zi.setA{ga na ac m:Nat}{zs:List Int}{z:Int}(h:Zi w wr lab base sb B s V G n c xs pv iv av b xb p y ay)(hj:0<y.phis.length)(hr0:Xq wr lab (4,b,0) base 2 1 (.slice (some ⟨ga,0,none⟩) na ac) zs.length (Xo zs))(hv:ay 0=.slice (some ⟨ga,0,none⟩) na ac) :
 Zi w (wr.setCell ⟨ga,m,none⟩ (.int .i64 z)) lab base sb B s V G n c xs pv iv av b xb p ⟨y.phis.set 0 ⟨y.phis[0].dst,zs.set m z⟩,y.instrs,y.term⟩ ay:=by
 have hn:=ZM hr0;have hgl:lab ga=(4,b,0):=hr0.lab ga rfl;have hgb:=(hr0.own.lt ga rfl).1;have k:XK wr (wr.setCell ⟨ga,m,none⟩ (.int .i64 z)) lab lab base (fun b=>b≠ga):=XK.put ga _ _;have nb:∀q,lab q≠(4,b,0)->q≠ga:=fun q h1 e=>h1 (by rw[e,hgl])
 have:=h.bb;refine h.step k (fun q h1 h2=>nb q (fun e=>by rw[e]at h2;simp at h2)) ?_ (h.yin.sp k (fun q e=>nb q (by rw[e];simp))) (fun i hi=>?_) (h.dr.put (by omega)) rfl rfl rfl (fun q h1 _=>Below.heap_setCell _ _ _ _ (by show q≠ga;omega)) (h.box.other (nb _ (by rw[h.boxl];simp))) h.boxl (h.res.other (nb _ (by rw[h.resl];simp))) h.resl (h.xbx.other (nb _ (by rw[h.xbl];simp))) h.xbl
 ·have hs:=h.yph.sp k (fun q e=>nb q (by rw[e];simp))
  have e:XU ay (y.phis.set 0 ⟨y.phis[0].dst,zs.set m z⟩)=XU ay y.phis:=by
   have e1:=Uu (ay:=ay) (ps:=y.phis) (j:=0) (q:=⟨y.phis[0].dst,zs.set m z⟩) (v:=ay 0) hj rfl;have e2:=Uu (ay:=ay) (ps:=y.phis) (j:=0) (q:=y.phis[0]) (v:=ay 0) hj rfl;have e3:(fun m=>if m=0 then ay 0 else ay m)=ay:=by funext m;by_cases e:m=0;(rw[if_pos e,e]);(rw[if_neg e])
   rw[e3]at e1 e2;rw[e1,<-e2,List.set_getElem_self]
  show Xq _ lab (2,b,0) base 46 2 p (y.phis.set 0 ⟨y.phis[0].dst,zs.set m z⟩).length (XU ay (y.phis.set 0 ⟨y.phis[0].dst,zs.set m z⟩));rw[List.length_set,e];exact hs
 ·by_cases e:i=0
  ·subst e
   simp only[List.getElem_set_self];rw[hv];refine Xq.intsL ?_;rw[hn]at hr0;have:=hr0.set m (.int .i64 z);have e2:Xo (zs.set m z)=(Xo zs).set m (.int .i64 z):=by simp[Xo,List.map_set]
   rw[e2,List.length_set,hn];exact this
  ·simp only[List.getElem_set_ne (fun e2=>e e2.symm)]
   exact(h.yar i (by simpa using hi)).sp k (fun q e3=>nb q (by rw[e3];simp;exact e))
theorem Zi.setI{gi ni ic i m:Nat}{z:Int}{x':Xz}(h:Zi w wr lab base sb B s V G n c xs pv iv av b xb p y ay)(hi:i<y.instrs.length)(hv:iv b=.slice (some ⟨gi,0,none⟩) ni ic)(hm:m<5)(hx:x'.cells=y.instrs[i].cells.set m (.int .i64 z)) :
 Zi w (wr.setCell ⟨gi,i*5+m,none⟩ (.int .i64 z)) lab base sb B s V G n c xs pv iv av b xb p ⟨y.phis,y.instrs.set i x',y.term⟩ ay:=by
 have hy:=h.yin;rw[hv]at hy;have hn:=ZM hy;have hgl:lab gi=(3,b,0):=hy.lab gi rfl;have hgb:=(hy.own.lt gi rfl).1;have k:XK wr (wr.setCell ⟨gi,i*5+m,none⟩ (.int .i64 z)) lab lab base (fun b=>b≠gi):=XK.put gi _ _;have nb:∀q,lab q≠(3,b,0)->q≠gi:=fun q h1 e=>h1 (by rw[e,hgl])
 have:=h.bb;refine h.step k (fun q h1 h2=>nb q (fun e=>by rw[e]at h2;simp at h2)) (h.yph.sp k (fun q e=>nb q (by rw[e];simp))) ?_ (fun j hj=>(h.yar j hj).sp k (fun q e=>nb q (by rw[e];simp))) (h.dr.put (by omega)) rfl rfl rfl (fun q h1 _=>Below.heap_setCell _ _ _ _ (by show q≠gi;omega)) (h.box.other (nb _ (by rw[h.boxl];simp))) h.boxl (h.res.other (nb _ (by rw[h.resl];simp))) h.resl (h.xbx.other (nb _ (by rw[h.xbl];simp))) h.xbl;have e:XD (y.instrs.set i x')=(XD y.instrs).set (i*5+m) (.int .i64 z):=by
  unfold XD;exact Ye (f:=fun _ (x:Xz)=>x.cells) (f':=fun _ (x:Xz)=>x.cells) (sz:=5) (fun _ _=>rfl) 0 y.instrs i hi x' m (.int .i64 z) hm hx (fun j hj _=>rfl)
 show Xq _ lab (3,b,0) base 53 5 (iv b) (y.instrs.set i x').length (XD (y.instrs.set i x'));rw[List.length_set,e,hv];rw[hn]at hy |-;exact hy.set (i*5+m) (.int .i64 z)
theorem Zi.gcells(h:Zi w wr lab base sb B s V G n c xs pv iv av b xb p y ay)(hb:b<xs.length):(∃u,wr.cell? ⟨G,b*6,none⟩=some u)/\(∃u,wr.cell? ⟨G,b*6+1,none⟩=some u)/\(∃u,wr.cell? ⟨G,b*6+2,none⟩=some u)/\(∃u,wr.cell? ⟨G,b*6+3,none⟩=some u)/\(∃u,wr.cell? ⟨G,b*6+4,none⟩=some u)/\(∃u,wr.cell? ⟨G,b*6+5,none⟩=some u)/\∀q,wr.frozen? ⟨G,q,none⟩=false:=by
 have hbl:=h.blks;have hn:=ZM hbl;subst hn;have cc:∀q u,q<6->(Tk (pv b) (iv b) xs[b].term)[q]?=some u->wr.cell? ⟨G,b*6+q,none⟩=some u:=fun q u hq hu=>hbl.cell (by
  unfold Xy;rw[Xu (fun _ _=>JZ _ _ _) 0 xs b hb q hq,Nat.zero_add];exact hu)
 exact⟨⟨_,cc 0 _ (by omega) rfl⟩,⟨_,cc 1 _ (by omega) rfl⟩,⟨_,cc 2 _ (by omega) rfl⟩,⟨_,cc 3 _ (by omega) rfl⟩,⟨_,cc 4 _ (by omega) rfl⟩,⟨_,cc 5 _ (by omega) rfl⟩,fun q=>hbl.thaw q⟩
theorem Zi.icells{gi ni ic i:Nat}(h:Zi w wr lab base sb B s V G n c xs pv iv av b xb p y ay)(hi:i<y.instrs.length)(hv:iv b=.slice (some ⟨gi,0,none⟩) ni ic):(∃u,wr.cell? ⟨gi,i*5,none⟩=some u)/\(∃u,wr.cell? ⟨gi,i*5+1,none⟩=some u)/\(∃u,wr.cell? ⟨gi,i*5+2,none⟩=some u)/\(∃u,wr.cell? ⟨gi,i*5+3,none⟩=some u)/\(∃u,wr.cell? ⟨gi,i*5+4,none⟩=some u)/\(∀q,wr.frozen? ⟨gi,q,none⟩=false)/\xb≠gi/\w.heap.size≠gi:=by
 have hy:=h.yin;rw[hv]at hy;have hn:=ZM hy;rw[hn]at hy;have hgl:=hy.lab gi rfl;have cc:∀q u,q<5->(y.instrs[i].cells)[q]?=some u->wr.cell? ⟨gi,i*5+q,none⟩=some u:=fun q u hq hu=>hy.cell (by
  unfold XD;rw[Xu (sz:=5) (fun _ _=>rfl) 0 y.instrs i hi q hq];exact hu)
 exact⟨⟨_,cc 0 _ (by omega) rfl⟩,⟨_,cc 1 _ (by omega) rfl⟩,⟨_,cc 2 _ (by omega) rfl⟩,⟨_,cc 3 _ (by omega) rfl⟩,⟨_,cc 4 _ (by omega) rfl⟩,fun q=>hy.thaw q,fun e=>by have:=h.xbl;rw[e,hgl]at this;simp at this,fun e=>by have:=h.boxl;rw[e,hgl]at this;simp at this⟩
theorem Zi.pcells{gp np pc:Nat}(h:Zi w wr lab base sb B s V G n c xs pv iv av b xb p y ay)(hj:0<y.phis.length)(hp:p=.slice (some ⟨gp,0,none⟩) np pc):wr.cell? ⟨gp,1,none⟩=some (ay 0)/\(∀q,wr.frozen? ⟨gp,q,none⟩=false)/\xb≠gp/\w.heap.size≠gp:=by
 subst hp;have hy:=h.yph;have hn:=ZM hy;rw[hn]at hy;have hgl:=hy.lab gp rfl;refine⟨hy.cell (by
  unfold XU;have:=Xu (sz:=2) (f:=fun j (p:Ph)=>[Value.int .i64 p.dst,ay j]) (fun _ _=>rfl) 0 y.phis 0 hj 1 (by omega);rw[Nat.zero_mul,Nat.zero_add]at this;rw[this];rfl),fun q=>hy.thaw q,fun e=>by have:=h.xbl;rw[e,hgl]at this;simp at this,fun e=>by have:=h.boxl;rw[e,hgl]at this;simp at this⟩
theorem Zi.gne{q:Nat}(h:Zi w wr lab base sb B s V G n c xs pv iv av b xb p y ay)(hq:lab q=(0,0,0)):q≠G:=fun e=>by
 have hn:=ZM h.blks;subst hn;have:=h.blks.blk.2;rw[<-e,hq]at this;simp at this
theorem Zi.gxb(h:Zi w wr lab base sb B s V G n c xs pv iv av b xb p y ay):G≠xb:=fun e=>h.gne h.xbl e.symm
theorem Zi.gbox(h:Zi w wr lab base sb B s V G n c xs pv iv av b xb p y ay):w.heap.size≠G:=h.gne h.boxl
theorem Zi.gres(h:Zi w wr lab base sb B s V G n c xs pv iv av b xb p y ay):w.heap.size+1≠G:=h.gne h.resl
end Go.Proofs.YtkehcdfalcakmaaGreatDoor
