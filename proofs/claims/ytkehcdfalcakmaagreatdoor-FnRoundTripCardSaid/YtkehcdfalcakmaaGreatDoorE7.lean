import Derived.Test.YtkehcdfalcakmaaGreatDoorW18b
namespace Go.Proofs.YtkehcdfalcakmaaGreatDoor
open Go.RowKit
theorem TN{α:Type}(f:α->List UInt8)(l:List α)(j:Nat)(h:j<l.length):l.flatMap f=(l.take j).flatMap f++(f l[j]++(l.drop (j+1)).flatMap f):=by
 rw[<-List.flatMap_cons,<-List.flatMap_append,<-List.drop_eq_getElem_cons h,List.take_append_drop]
theorem Zb0{α:Type}(f:α->List UInt8)(hf:∀x,1<=(f x).length)(l:List α):l.length<=(l.flatMap f).length:=by
 induction l with
 | nil=>exact Nat.zero_le _
 | cons x r ih=>have:=hf x;simp only[List.flatMap_cons,List.length_append,List.length_cons];omega
theorem WG(w:List UInt8)(vs:List Int):1<=(lineS w vs).length:=by simp only[lineS,List.length_append,List.length_singleton];omega
theorem WB{α:Type}(f:α->List UInt8)(l:List α)(j:Nat)(h:j<l.length):(l.take (j+1)).flatMap f=(l.take j).flatMap f++f l[j]:=by
 rw[X9 _ _ h,List.flatMap_append];simp
end Go.Proofs.YtkehcdfalcakmaaGreatDoor
namespace Go.Proofs.YtkehcdfalcakmaaGreatDoor
open Go.RowKit
def JE(w:World)(b:Nat)(xs:List Int):Prop:=(∃C t,w.heap[b]?=some (.cells C t (0,0)))/\∀i (h:i<xs.length),w.cell? ⟨b,i,none⟩=some (.int .i64 xs[i])
variable {w w' : World} {b : Nat} {xs : List Int}
theorem JE.lt(h:JE w b xs):b<w.heap.size:=by
 obtain⟨⟨C,t,e⟩,_⟩:=h;exact(Array.getElem?_eq_some_iff.1 e).1
theorem JE.frozen(h:JE w b xs)(i:Nat):w.frozen? ⟨b,i,none⟩=false:=by
 obtain⟨⟨C,t,e⟩,_⟩:=h;unfold World.frozen?;rw[e];simp
theorem JE.keep(h:JE w b xs)(k:w'.heap[b]?=w.heap[b]?):JE w' b xs:=by
 obtain⟨⟨C,t,e⟩,h2⟩:=h;exact⟨⟨C,t,k.trans e⟩,fun i hi=>(Xc k).trans (h2 i hi)⟩
theorem JE.set(h:JE w b xs){i:Nat}(hi:i<xs.length)(v:Int):JE (w.setCell ⟨b,i,none⟩ (.int .i64 v)) b (xs.set i v):=by
 obtain⟨⟨C,t,e⟩,h2⟩:=h;refine⟨⟨C.setIfInBounds i (.int .i64 v),t,?_⟩,fun j hj=>?_⟩
 ·simp only[World.setCell,Array.getElem?_modify,e]
  simp
 ·have hj':j<xs.length:=by simpa using hj
  by_cases ej:j=i
  ·subst ej
   rw[World.cell?_setCell_same _ _ _ (h2 j hj')];simp
  ·rw[World.cell?_setCell_other _ _ _ _ (by intro q;injection q with _ q2;omega)]
   rw[h2 j hj',List.getElem_set_ne (by omega)]
theorem JE.at(h:JE w b xs){L B:Nat}(hb:L<=b/\b<B):Xh w L B (some ⟨b,0,none⟩) xs:=fun i hi=>⟨b,0,rfl,hb,by rw[Nat.zero_add];exact h.2 i hi⟩
end Go.Proofs.YtkehcdfalcakmaaGreatDoor
namespace Go.Proofs.YtkehcdfalcakmaaGreatDoor
open Go.RowKit
structure Kb(B gv gh:Nat)(w w':World):Prop where
 os:w'.os=w.os
 tape:w'.tape=w.tape
 output:w'.output=w.output
 size:w.heap.size<=w'.heap.size
 block:∀k,k<B->k≠gv->k≠gh->w'.heap[k]?=w.heap[k]?
variable {w w' w1 w2 : World} {B gv gh : Nat}
theorem Kb.refl(B gv gh:Nat)(w:World):Kb B gv gh w w:=⟨rfl,rfl,rfl,Nat.le_refl _,fun _ _ _ _=>rfl⟩
theorem Kb.trans(h:Kb B gv gh w w1)(k:Kb B gv gh w1 w2):Kb B gv gh w w2:=⟨k.os.trans h.os,k.tape.trans h.tape,k.output.trans h.output,Nat.le_trans h.size k.size,fun i a b c=>(k.block i a b c).trans (h.block i a b c)⟩
theorem Kb.of_below(h:Below B w w1):Kb B gv gh w w1:=⟨h.os,h.tape,h.output,h.size,fun i a _ _=>h.block i a⟩
theorem Kb.mono{B':Nat}(h:Kb B gv gh w w1)(hb:B'<=B):Kb B' gv gh w w1:=⟨h.os,h.tape,h.output,h.size,fun i a b c=>h.block i (by omega) b c⟩
theorem Kb.below{B':Nat}(h:Kb B gv gh w w1)(hb:B'<=B)(h1:B'<=gv)(h2:B'<=gh):Below B' w w1:=⟨h.os,h.tape,h.output,h.size,fun i a=>h.block i (by omega) (by omega) (by omega)⟩
theorem Kb.set(h:Kb B gv gh w w1){b o:Nat}(hb:b=gv\/b=gh)(v:Value):Kb B gv gh w (w1.setCell ⟨b,o,none⟩ v) :=
 h.trans ⟨rfl,rfl,rfl,by simp[World.setCell],fun k _ h1 h2=>Below.heap_setCell _ _ _ _ (by dsimp only;omega)⟩
structure KT(w:World)(B gv gh:Nat)(t:Nat)(tv:Value)(vals hp tr:List Int):Prop where
 vals:JE w gv vals
 heap:JE w gh hp
 own:w.ownsRow B t 1 tv tr.length (tr.map (Value.int .i64))
 ne:gv≠gh
 tvals:tv.ownBlock≠some gv
 theap:tv.ownBlock≠some gh
variable {t : Nat} {tv : Value} {vals hp tr : List Int}
theorem Zbs{x:Value}{n:Nat}{xs:List Value}(h:w.ownsRow B t 1 x n xs)(k:∀b,x.ownBlock=some b->w1.heap[b]?=w.heap[b]?):w1.ownsRow B t 1 x n xs:=by
 obtain⟨hl,h | ⟨g,cap,cur,rfl,hg,hh,hc⟩⟩:=h
 ·exact⟨hl,Or.inl h⟩
 ·exact⟨hl,Or.inr ⟨g,cap,cur,rfl,hg,(k g rfl).trans hh,hc⟩⟩
theorem KT.keep(h:KT w B gv gh t tv vals hp tr)(k:∀b,b<w.heap.size->w1.heap[b]?=w.heap[b]?):KT w1 B gv gh t tv vals hp tr :=
 ⟨h.vals.keep (k _ h.vals.lt),h.heap.keep (k _ h.heap.lt),Zbs h.own (fun b e=>k b (h.own.lt b e).2),h.ne,h.tvals,h.theap⟩
theorem Kb.drew(h:Kb B gv gh w w1):Kb B gv gh w w1.drew:=⟨h.os,h.tape,h.output,h.size,h.block⟩
theorem KT.drew(h:KT w B gv gh t tv vals hp tr):KT w.drew B gv gh t tv vals hp tr:=h.keep (fun _ _=>rfl)
structure Rn(w:World)(r B gv gh t:Nat)(tv:Value)(vals hp tr:List Int)(W:World):Prop where
 kb:Kb B gv gh w W
 mem:KT W B gv gh t tv vals hp tr
 rv:r≠gv
 rh:r≠gh
 rt:tv.ownBlock≠some r
 rB:B<=r
variable {r : Nat} {W : World}
theorem Rn.drew(h:Rn w r B gv gh t tv vals hp tr W):Rn w r B gv gh t tv vals hp tr W.drew:=⟨h.kb.drew,h.mem.drew,h.rv,h.rh,h.rt,h.rB⟩
theorem Rn.out(h:Rn w r B gv gh t tv vals hp tr W)(i:Nat)(v:Value):Rn w r B gv gh t tv vals hp tr (W.setCell ⟨r,i,none⟩ v) :=
 ⟨h.kb.trans ⟨rfl,rfl,rfl,by simp[World.setCell],fun k hk _ _=>Below.heap_setCell _ _ _ _ (by have:=h.rB;dsimp only;omega)⟩,
  ⟨h.mem.vals.keep (Below.heap_setCell _ _ _ _ (fun e=>h.rv e.symm)),h.mem.heap.keep (Below.heap_setCell _ _ _ _ (fun e=>h.rh e.symm)),Zbs h.mem.own (fun b e=>Below.heap_setCell _ _ _ _ (fun e2=>h.rt (by rw[e,e2]))),h.mem.ne,h.mem.tvals,h.mem.theap⟩,h.rv,h.rh,h.rt,h.rB⟩
theorem Rn.of(h:KT w B gv gh t tv vals hp tr)(hB:B<=w.heap.size)(k:Below w.heap.size w W)(hr:w.heap.size<=r):Rn w r B gv gh t tv vals hp tr W :=
 ⟨Kb.of_below (k.mono hB),h.keep k.block,by have:=h.vals.lt;omega,by have:=h.heap.lt;omega,fun e=>by have:=(h.own.lt _ e).2;omega,by omega⟩
theorem Rn.push(h:Rn w r B gv gh t tv vals hp tr W){g cap:Nat}{x:Int}{n:Nat}(hn:n=(tr++[x]).length)(ho:w1.ownsRow B t 1 (.slice (some ⟨g,0,none⟩) n cap) n (tr.map (Value.int .i64)++[.int .i64 x]))(hg:W.grownBy w1 tv.ownBlock)(hat:tv.ownBlock=some g\/W.heap.size<=g)(hr:r<W.heap.size) :
 Rn w r B gv gh t (.slice (some ⟨g,0,none⟩) n cap) vals hp (tr++[x]) w1:=by
 subst hn;have hvl:=h.mem.vals.lt;have hhl:=h.mem.heap.lt;refine⟨h.kb.trans ⟨hg.os,hg.tape,hg.output,hg.size,fun k hk _ _=>?_⟩,⟨h.mem.vals.keep (hg.block _ hvl (fun e=>h.mem.tvals e.symm)),h.mem.heap.keep (hg.block _ hhl (fun e=>h.mem.theap e.symm)),by rw[List.map_append];exact ho,h.mem.ne,?_,?_⟩,h.rv,h.rh,?_,h.rB⟩
 ·by_cases hkw:k<W.heap.size
  ·exact hg.block k hkw (fun e=>by have:=(h.mem.own.lt k e.symm).1;omega)
  ·have:=h.rB;omega
 ·rcases hat with e | e
  ·rw[show(Value.slice (some ⟨g,0,none⟩) (tr++[x]).length cap).ownBlock=some g from rfl,<-e];exact h.mem.tvals
  ·intro e2;injection e2 with e3;dsimp only at e3;omega
 ·rcases hat with e | e
  ·rw[show(Value.slice (some ⟨g,0,none⟩) (tr++[x]).length cap).ownBlock=some g from rfl,<-e];exact h.mem.theap
  ·intro e2;injection e2 with e3;dsimp only at e3;omega
 ·rcases hat with e | e
  ·rw[show(Value.slice (some ⟨g,0,none⟩) (tr++[x]).length cap).ownBlock=some g from rfl,<-e];exact h.rt
  ·intro e2;injection e2 with e3;dsimp only at e3;omega
theorem Kb.cell{g b o:Nat}(h:Kb B g g w w')(hb:b<B)(hne:b≠g):w'.cell? ⟨b,o,none⟩=w.cell? ⟨b,o,none⟩:=Xc (h.block b hb hne hne)
end Go.Proofs.YtkehcdfalcakmaaGreatDoor
namespace Go.Proofs.YtkehcdfalcakmaaGreatDoor
open Go.RowKit
def Fn.blk(F:Fn)(b:Nat):Xf:=F.blocks.getD b ⟨[],[],⟨0,0,0,0⟩⟩
theorem V1(F:Fn)(b:Nat)(h:b<F.blocks.length):F.blk b=F.blocks[b]:=by simp[Fn.blk,h]
structure Zig(F:Fn)(b:Nat):Prop where
 lt:b<F.blocks.length
 ins:∀i (h:i<(F.blk b).instrs.length),Yb F.values 10 (F.blk b).instrs[i]=true
 ter:Zx F.values F.blocks.length (F.blk b).term=true
 phi:∀i (h:i<(F.blk b).phis.length),Zd F.values (F.preds b).length (F.blk b).phis[i]=true
theorem UZ(ok:Int->Nat->Ph->Bool)(F:Fn):∀(xs:List Xf)(i:Nat),Yj ok F xs i=true->∀j (h:j<xs.length),xs[j].phis.all (ok F.values (F.preds ((i+j:Nat):Int)).length)=true
 | [],_,_,j,h=>absurd h (by simp)
 | x::xs,i,hp,j,h=>by
  rw[Yj,Bool.and_eq_true]at hp;cases j with
  | zero=>simpa using hp.1
  | succ j =>
   have:=UZ ok F xs (i+1) hp.2 j (by simpa using h);rw[show i+1+j=i+(j+1) by omega]at this;simpa using this
theorem ZaZ(F:Fn)(h:Yx F=true)(b:Nat)(hb:b<F.blocks.length):Zig F b:=by
 rw[<-Zp]at h;simp only[Ki,Bool.and_eq_true]at h;obtain⟨⟨⟨⟨_,h2⟩,h3⟩,h4⟩,_⟩:=h;refine⟨hb,?_,?_,?_⟩
 ·rw[V1 F b hb]
  intro i hi;have:=(List.all_eq_true.1 h3) F.blocks[b] (List.getElem_mem hb);exact(List.all_eq_true.1 this) _ (List.getElem_mem hi)
 ·rw[V1 F b hb]
  exact(List.all_eq_true.1 h2) F.blocks[b] (List.getElem_mem hb)
 ·rw[V1 F b hb]
  intro i hi;have:=UZ Zd F F.blocks 0 h4 b hb;rw[Nat.zero_add]at this;exact(List.all_eq_true.1 this) _ (List.getElem_mem hi)
def Uy(F:Fn):List UInt8:=if Yx F=true then Jn F else []
theorem TE{u:Bool}{x lo hi:Int}(h:K0 u x lo hi=true)(h0:0<=lo)(h1:hi<=2000):0<=x/\x<=2000:=by
 cases u<;>simp[K0]at h<;>omega
theorem VI{v:Int}(h:-1000000000<=v/\v<=1000000000):UX v:=by unfold UX;omega
theorem ZaG(F:Fn)(h:Yx F=true):UX F.values/\(∀x∈F.blocks,Zda x)/\(∀x∈F.blocks,(∀i∈x.instrs,1<=i.op/\i.op<=13)/\(x.term.kind=1\/x.term.kind=2\/x.term.kind=3)):=by
 have hz:Yz F=true:=by simp only[Yx,Bool.and_eq_true]at h;exact h.1.1.1
 simp only[Yz,Bool.and_eq_true,decide_eq_true_eq]at hz;obtain⟨⟨⟨⟨z1,z2⟩,z3⟩,z4⟩,z5⟩:=hz;refine⟨VI (by omega),fun x hx=>?_,fun x hx=>?_⟩
 all_goals
  obtain⟨b,hb,rfl⟩:=List.getElem_of_mem hx;have H:=ZaZ F h b hb;have e:=V1 F b hb;have hI:=H.ins;have hT:=H.ter;have hP:=H.phi;rw[e]at hT;simp only[Zx,Ze,Bool.and_eq_true,decide_eq_true_eq]at hT;obtain⟨⟨⟨⟨⟨t1,t2⟩,t3⟩,t4⟩,t5⟩,_⟩:=hT
 ·constructor
  ·intro p hp v hv
   obtain⟨i,hi,rfl⟩:=List.getElem_of_mem hp;have h1:=hP i (by rw[e];exact hi);simp only[e]at h1;simp only[Zd,ZB,Bool.and_eq_true,List.all_eq_true,decide_eq_true_eq]at h1;obtain⟨q1,⟨_,q2⟩⟩:=h1;rcases List.mem_cons.1 hv with rfl | hv
   ·exact VI (by have:=TE q1 (by omega) z2;omega)
   ·exact VI (by have:=q2 v hv;omega)
  ·intro j hj v hv
   obtain⟨i,hi,rfl⟩:=List.getElem_of_mem hj;have h1:=hI i (by rw[e];exact hi);simp only[e]at h1;simp only[Yb,Bool.and_eq_true,decide_eq_true_eq]at h1;obtain⟨⟨⟨⟨⟨q1,q2⟩,q3⟩,q4⟩,q5⟩,q6⟩:=h1;have i3:=TE q3 (by omega) z2;have i4:=TE q4 (by omega) z2;have i5:=TE q5 (by omega) z2;have i6:-1000000000<=F.blocks[b].instrs[i].imm/\F.blocks[b].instrs[i].imm<=1000000000:=by
    unfold KV at q6;split at q6
    ·simpa using q6
    ·split at q6
     ·simp at q6;omega
     ·simp at q6;omega
   simp only[List.mem_cons,List.not_mem_nil,or_false]at hv;exact VI (by rcases hv with rfl | rfl | rfl | rfl<;>omega)
  ·intro v hv
   have i3:=TE t3 (by omega) z2;have i4:=TE t4 (by omega) (by omega);have i5:=TE t5 (by omega) (by omega);simp only[List.mem_cons,List.not_mem_nil,or_false]at hv;exact VI (by rcases hv with rfl | rfl | rfl<;>omega)
 ·refine⟨fun j hj=>?_,by omega⟩
  obtain⟨i,hi,rfl⟩:=List.getElem_of_mem hj;have h1:=hI i (by rw[e];exact hi);simp only[e]at h1;simp only[Yb,Bool.and_eq_true,decide_eq_true_eq]at h1;have h2:=h1.1.1.1.1;omega
theorem ZbO(w:World):(w.alloc (.cells #[] 5)).ownsRow w.heap.size 5 1 (.slice (some ⟨w.heap.size,0,none⟩) 0 0) 0 []:=by
 have:=World.ownsRow_lit (base:=w.heap.size) (e:=5) (size:=1) w #[] 0 (by simp) (by simp) rfl;simpa using this
end Go.Proofs.YtkehcdfalcakmaaGreatDoor
