import Derived.Test.YtdfdmjcngkfciaaDoorDGb
namespace Go.Proofs.YtdfdmjcngkfciaaDoor
open Go.RowKit
variable {w wr w' : World} {lab lab' : Nat → Nat × Nat × Nat} {base : Nat}
def Blk.setPhi (x:Blk) (j:Nat) (p:Ph):Blk:=⟨x.phis.set j p,x.instrs,x.term⟩
theorem getElem_setSelf {T:Type} (xs:List T) (i:Nat) (x:T) (h:i<(xs.set i x).length):(xs.set i x)[i]=x:=List.getElem_set_self h
theorem FnL.pushArg {v:Value} {xs:List Blk} {pv iv:Nat→Value} {av:Nat→Nat→Value} (h:FnL w lab base v xs pv iv av) (hf:∀b,w.heap.size≤b→lab b=(0,0,0)) {i j g n c n':Nat} (hi:i<xs.length) (hj:j<xs[i].phis.length) (hp:pv i=.slice (some ⟨g,0,none⟩) n c) {a':Value} {x:Int} (hg:w.grownBy w' (av i j).ownBlock) (ho:w'.ownsRow base 2 1 a' n' (intsV xs[i].phis[j].args++[.int .i64 x])) (hn:n'=xs[i].phis[j].args.length+1) (hat:a'.ownBlock=(av i j).ownBlock∨a'.ownBlock=some w.heap.size) :
  ∃lab',FnL (w'.setCell ⟨g,j*2+1,none⟩ a') lab' base v (xs.set i (xs[i].setPhi j ⟨xs[i].phis[j].dst,xs[i].phis[j].args++[x]⟩)) pv iv (fun a b=>if a=i∧b=j then a' else av a b)∧SpL w (w'.setCell ⟨g,j*2+1,none⟩ a') lab lab' base (fun b=>lab b≠(4,i,j)∧lab b≠(2,i,0))∧w'.cell? ⟨g,j*2+1,none⟩=some (av i j)∧(∀q,w'.frozen? ⟨g,q,none⟩=false):=by
 obtain ⟨lab',hr,k⟩:=(h.args i hi j hj).grow hg ho hat hf
 have hph:=h.phis i hi
 rw [hp] at hph
 have hnl:xs[i].phis.length=n:=by
  rcases hph.own.2 with ⟨e,_⟩ | ⟨_,_,_,e,_⟩
  ·cases e
  ·cases e;rfl
 subst hnl
 have hgl:=hph.blk.2
 have hph':=hph.sp k (fun b e=>by rw [e];simp)
 have hgl':=hph'.blk.2
 have k1:SpL w' (w'.setCell ⟨g,j*2+1,none⟩ a') lab' lab' base (fun b=>b≠g):=SpL.put _ _ _
 have ng:∀b,lab' b≠(2,i,0)→b≠g:=fun b hb e=>hb (by rw [e];exact hgl')
 have keep:∀{L:Nat × Nat × Nat} {t sz:Nat} {u:Value} {m:Nat} {cs:List Value},RowL w lab L base t sz u m cs→L≠(4,i,j)→L≠(2,i,0)→RowL (w'.setCell ⟨g,j*2+1,none⟩ a') lab' L base t sz u m cs:=fun hr h1 h2=>(hr.sp k (fun b e=>by rw [e];exact h1)).sp k1 (fun b e=>ng b (by rw [e];exact h2))
 refine ⟨lab',⟨?_,fun a ha=>?_,fun a ha=>?_,fun a ha b hb=>?_⟩,?_,?_,fun q=>hph'.thaw q⟩
 ·have e:blksV pv iv (xs.set i (xs[i].setPhi j ⟨xs[i].phis[j].dst,xs[i].phis[j].args++[x]⟩))=blksV pv iv xs:=by
   unfold blksV
   refine List.ext_getElem? (fun r=>?_)
   have hl:=flatI_len (f:=fun i (x:Blk)=>bkC (pv i) (iv i) x.term) (sz:=6) (fun _ _=>rfl) 0 xs
   have hl2:=flatI_len (f:=fun i (x:Blk)=>bkC (pv i) (iv i) x.term) (sz:=6) (fun _ _=>rfl) 0 (xs.set i (xs[i].setPhi j ⟨xs[i].phis[j].dst,xs[i].phis[j].args++[x]⟩))
   rw [List.length_set] at hl2
   by_cases hr:r<xs.length*6
   ·have hq:r / 6<xs.length:=by omega
    have hqs:r / 6<(xs.set i (xs[i].setPhi j ⟨xs[i].phis[j].dst,xs[i].phis[j].args++[x]⟩)).length:=by simpa using hq
    have er:r=r / 6*6+r % 6:=by omega
    have hm:r % 6<6:=Nat.mod_lt _ (by decide)
    rw [er,flatI_at (sz:=6) (fun _ _=>rfl) 0 _ _ hqs _ hm,flatI_at (sz:=6) (fun _ _=>rfl) 0 xs _ hq _ hm]
    by_cases e:i=r / 6
    ·subst e
     rw [getElem_setSelf]
     rfl
    ·rw [List.getElem_set_ne e]
   ·rw [List.getElem?_eq_none (by omega),List.getElem?_eq_none (by omega)]
  rw [e,List.length_set]
  exact keep h.blks (by simp) (by simp)
 ·by_cases e:a=i
  ·subst e
   simp only [getElem_setSelf]
   rw [hp]
   show RowL _ lab' (2,a,0) base 72 2 _ (xs[a].phis.set j _).length (phsV _ (xs[a].phis.set j _))
   rw [List.length_set]
   have es:phsV (fun b=>if True∧b=j then a' else av a b) (xs[a].phis.set j ⟨xs[a].phis[j].dst,xs[a].phis[j].args++[x]⟩)=(phsV (av a) xs[a].phis).set (j*2+1) a':=by
    unfold phsV
    refine flatI_set (sz:=2) (fun _ _=>rfl) 0 xs[a].phis j hj _ 1 a' (by decide) ?_ (fun m hm hne=>?_)
    ·rw [Nat.zero_add]
     dsimp only
     rw [if_pos ⟨trivial,rfl⟩]
     rfl
    ·rw [Nat.zero_add]
     dsimp only
     rw [if_neg (fun h=>hne h.2)]
   rw [es]
   exact hph'.set _ _
  ·rw [List.getElem_set_ne (fun e2=>e e2.symm)]
   have ha':a<xs.length:=by simpa using ha
   have e2:phsV (fun b=>if a=i∧b=j then a' else av a b) xs[a].phis=phsV (av a) xs[a].phis:=by
    unfold phsV
    exact flatI_congr 0 _ (fun m hm=>by dsimp only;rw [if_neg (fun h=>e h.1)])
   rw [e2]
   exact keep (h.phis a ha') (by simp) (by simp;exact e)
 ·by_cases e:a=i
  ·subst e
   simp only [getElem_setSelf]
   exact keep (h.ins a hi) (by simp) (by simp)
  ·rw [List.getElem_set_ne (fun e2=>e e2.symm)]
   exact keep (h.ins a (by simpa using ha)) (by simp) (by simp)
 ·by_cases e:a=i
  ·subst e
   simp only [getElem_setSelf] at hb ⊢
   have hb':b<xs[a].phis.length:=by simpa [Blk.setPhi] using hb
   by_cases e2:b=j
   ·subst e2
    simp only [Blk.setPhi,getElem_setSelf]
    rw [if_pos ⟨trivial,trivial⟩]
    subst hn
    have e3:intsV (xs[a].phis[b].args++[x])=intsV xs[a].phis[b].args++[.int .i64 x]:=by simp [intsV]
    rw [e3,List.length_append]
    exact hr.sp k1 (fun b e=>ng b (by rw [e];simp))
   ·simp only [Blk.setPhi,List.getElem_set_ne (fun e3=>e2 e3.symm)]
    rw [if_neg (fun h=>e2 h.2)]
    exact keep (h.args a hi b hb') (by simp;exact e2) (by simp)
  ·simp only [List.getElem_set_ne (fun e2=>e e2.symm)] at hb ⊢
   rw [if_neg (fun h=>e h.1)]
   exact keep (h.args a (by simpa using ha) b hb) (by simp;intro h1;exact absurd h1 e) (by simp)
 ·exact (k.trans k1).weak (fun b hb=>⟨hb.1,fun e=>hb.2 (by rw [e];exact hgl)⟩)
 ·refine hph'.cell ?_
  unfold phsV
  rw [flatI_at (sz:=2) (fun _ _=>rfl) 0 _ j hj 1 (by decide),Nat.zero_add]
  rfl
end Go.Proofs.YtdfdmjcngkfciaaDoor

namespace Go.Proofs.YtdfdmjcngkfciaaDoor
open Go.RowKit
variable {w wr w' : World} {lab lab' : Nat → Nat × Nat × Nat} {sb B : Nat} {s s' : Sr} {fb vals G c : Nat} {xs : List Blk} {pv iv : Nat → Value} {av : Nat → Nat → Value} {ve : Value} {ev : Nat → Value} {ends : List (List Int)} {vi : Value} {ids : List Int}
def PrL (w wr:World) (lab:Nat→Nat × Nat × Nat) (pa:Option Addr) (ps:List Int):Prop:=∀q (h:q<ps.length),∃b o,pa=some ⟨b,o,none⟩∧lab b=(0,0,0)∧(w.heap.size≤b∧b<wr.heap.size)∧wr.cell? ⟨b,o+q,none⟩=some (.int .i64 ps[q])
theorem PrL.sp {pa:Option Addr} {ps:List Int} {ok:Nat→Prop} (h:PrL w wr lab pa ps) (k:SpL wr w' lab lab' w.heap.size ok) (ho:∀b,lab b=(0,0,0)→b<wr.heap.size→ok b):PrL w w' lab' pa ps:=fun q hq=>by
 obtain ⟨b,o,e,hl,hb,hc⟩:=h q hq
 have:=k.same b hb.1 hb.2 (ho b hl hb.2)
 exact ⟨b,o,e,this.2.trans hl,⟨hb.1,Nat.lt_of_lt_of_le hb.2 k.size⟩,(cell_of this.1).trans hc⟩
theorem GoF.belowF (h:GoF w wr lab sb B s fb vals G c xs pv iv av ve ev ends vi ids) (k:Below wr.heap.size wr w'):GoF w w' lab sb B s fb vals G c xs pv iv av ve ev ends vi ids :=
 h.call ⟨k.os,k.tape,k.output,k.size,fun b hb _=>k.block b hb⟩ (h.dr.keep (k.mono h.dr.sB))
theorem PrL.start {pa:Option Addr} {ps:List Int} (h:GoF w wr lab sb B s fb vals G c xs pv iv av ve ev ends vi ids) (hp:IntsAt w' wr.heap.size w'.heap.size pa ps):PrL w w' lab pa ps:=fun q hq=>by
 obtain ⟨b,o,e,hb,hc⟩:=hp q hq
 exact ⟨b,o,e,h.fr b hb.1,⟨Nat.le_trans h.gr.size hb.1,hb.2⟩,hc⟩
theorem GoF.facts {i j g ge np cp ne ce d:Nat} (h:GoF w wr lab sb B s fb vals G c xs pv iv av ve ev ends vi ids) (hi:i<xs.length) (hj:j<xs[i].phis.length) (hp:pv i=.slice (some ⟨g,0,none⟩) np cp) (he:ve=.slice (some ⟨ge,0,none⟩) ne ce) (hd:d<ends.length) :
  wr.cell? ⟨fb,1,none⟩=some (.slice (some ⟨G,0,none⟩) xs.length c)∧wr.cell? ⟨G,i*6,none⟩=some (.slice (some ⟨g,0,none⟩) np cp)∧wr.cell? ⟨g,j*2+1,none⟩=some (av i j)∧wr.cell? ⟨ge,d,none⟩=some (ev d):=by
 have hph:=h.fn.phis i hi
 rw [hp] at hph
 have hnl:xs[i].phis.length=np:=by
  rcases hph.own.2 with ⟨e,_⟩ | ⟨_,_,_,e,_⟩
  ·cases e
  ·cases e;rfl
 subst hnl
 have hes:=h.es
 rw [he] at hes
 have hne:ends.length=ne:=by
  rcases hes.own.2 with ⟨e,_⟩ | ⟨_,_,_,e,_⟩
  ·cases e
  ·cases e;rfl
 subst hne
 refine ⟨Bx.cell h.fbx rfl,h.fn.blks.cell ?_,hph.cell ?_,hes.cell ?_⟩
 ·unfold blksV
  have:=flatI_at (f:=fun i (x:Blk)=>bkC (pv i) (iv i) x.term) (sz:=6) (fun _ _=>rfl) 0 xs i hi 0 (by decide)
  rw [Nat.add_zero,Nat.zero_add] at this
  rw [this,←hp]
  rfl
 ·unfold phsV
  rw [flatI_at (sz:=2) (fun _ _=>rfl) 0 _ j hj 1 (by decide),Nat.zero_add]
  rfl
 ·have:=flatI_at (f:=fun i (_:List Int)=>[ev i]) (sz:=1) (fun _ _=>rfl) 0 ends d hd 0 (by decide)
  rw [Nat.mul_one,Nat.add_zero,Nat.zero_add] at this
  rw [this]
  rfl
theorem GoF.pushArg {i j g n cc n':Nat} (h:GoF w wr lab sb B s fb vals G c xs pv iv av ve ev ends vi ids) (hi:i<xs.length) (hj:j<xs[i].phis.length) (hp:pv i=.slice (some ⟨g,0,none⟩) n cc) {a':Value} {x:Int} (hg:wr.grownBy w' (av i j).ownBlock) (ho:w'.ownsRow w.heap.size 2 1 a' n' (intsV xs[i].phis[j].args++[.int .i64 x])) (hn:n'=xs[i].phis[j].args.length+1) (hat:a'.ownBlock=(av i j).ownBlock∨a'.ownBlock=some wr.heap.size) :
  (w'.cell? ⟨g,j*2+1,none⟩=some (av i j)∧(∀q,w'.frozen? ⟨g,q,none⟩=false))∧∃lab',GoF w (w'.setCell ⟨g,j*2+1,none⟩ a') lab' sb B s fb vals G c (xs.set i (xs[i].setPhi j ⟨xs[i].phis[j].dst,xs[i].phis[j].args++[x]⟩)) pv iv (fun a b=>if a=i∧b=j then a' else av a b) ve ev ends vi ids∧SpL wr (w'.setCell ⟨g,j*2+1,none⟩ a') lab lab' w.heap.size (fun b=>lab b≠(4,i,j)∧lab b≠(2,i,0)):=by
 obtain ⟨lab',hfn,k,hc,hz⟩:=h.fn.pushArg h.fr hi hj hp hg ho hn hat
 have hl:∀b,lab b=(0,0,0)→lab b≠(4,i,j)∧lab b≠(2,i,0):=fun b e=>by rw [e];simp
 have hgb:w.heap.size≤g:=by
  have:=h.fn.phis i hi
  rw [hp] at this
  exact (this.own.lt g rfl).1
 have hlo:=h.low (((h.fn.args i hi j hj).below hg (Nat.le_refl _) h.gr.size).trans ((Below.refl w.heap.size w').setCell (p:=⟨g,j*2+1,none⟩) hgb a'))
 refine ⟨⟨hc,hz⟩,lab',⟨hlo.1,hlo.2,h.bw,h.res.sp k (Nat.le_refl _) (hl _ h.resl),(k.same _ (Nat.le_refl _) h.res.lt (hl _ h.resl)).2.trans h.resl,?_,(k.same _ (Nat.le_of_lt h.fbb) h.fbx.lt (hl _ h.fbl)).2.trans h.fbl,h.fbb,?_,h.es.sp k (fun b e=>by rw [e];simp),fun m hm=>(h.evs m hm).sp k (fun b e=>by rw [e];simp),h.id.sp k (fun b e=>by rw [e];simp),k.fresh h.fr,h.nil_⟩,k⟩
 ·rw [List.length_set]
  exact h.fbx.sp k (Nat.le_of_lt h.fbb) (hl _ h.fbl)
 ·rw [List.length_set]
  exact hfn
end Go.Proofs.YtdfdmjcngkfciaaDoor

namespace Go.Proofs.YtdfdmjcngkfciaaDoor
open Go.RowKit
variable {w wr w' : World} {lab : Nat → Nat × Nat × Nat} {sb B : Nat} {s : Sr} {fb vals G c : Nat} {xs : List Blk} {pv iv : Nat → Value} {av : Nat → Nat → Value} {ve : Value} {ev : Nat → Value} {ends : List (List Int)} {vi : Value} {ids : List Int}
theorem GoF.held8 {i j g ge np cp ne ce d bp op k:Nat} {preds:List Int} {u:Value} (h:GoF w wr lab sb B s fb vals G c xs pv iv av ve ev ends vi ids) (hi:i<xs.length) (hj:j<xs[i].phis.length) (hp:pv i=.slice (some ⟨g,0,none⟩) np cp) (he:ve=.slice (some ⟨ge,0,none⟩) ne ce) (hd:d<ends.length) (hq:PrL w wr lab (some ⟨bp,op,none⟩) preds) (hk:k<preds.length) (hu:some u=some (Value.int .i64 preds[k])) (hg:wr.grownBy w' (av i j).ownBlock) :
  (w'.cell? ⟨fb,1,none⟩=some (.slice (some ⟨G,0,none⟩) xs.length c)∧w'.cell? ⟨G,i*6,none⟩=some (.slice (some ⟨g,0,none⟩) np cp)∧w'.cell? ⟨bp,op+k,none⟩=some u∧w'.cell? ⟨ge,d,none⟩=some (ev d)) ∧
  ∀a' m,((w'.setCell ⟨g,m,none⟩ a').cell? ⟨fb,1,none⟩=some (.slice (some ⟨G,0,none⟩) xs.length c)∧(w'.setCell ⟨g,m,none⟩ a').cell? ⟨G,i*6,none⟩=some (.slice (some ⟨g,0,none⟩) np cp)∧(w'.setCell ⟨g,m,none⟩ a').cell? ⟨bp,op+k,none⟩=some u∧(w'.setCell ⟨g,m,none⟩ a').cell? ⟨ge,d,none⟩=some (ev d)):=by
 obtain ⟨f1,f2,_,f4⟩:=h.facts hi hj hp he hd
 obtain ⟨b',o',e,hbl,hbb,hbc⟩:=hq k hk
 cases e
 rw [←hu] at hbc
 have kb:∀b,b<wr.heap.size→lab b≠(4,i,j)→w'.heap[b]?=wr.heap[b]?:=fun b h2 hne=>hg.block b h2 (fun e=>hne ((h.fn.args i hi j hj).lab b e.symm))
 have hG:=h.fn.blks.blk
 have hE:(w.heap.size≤ge∧ge<wr.heap.size)∧lab ge=(6,0,0):=by
  have hes:=h.es
  rw [he] at hes
  exact ⟨hes.own.lt ge rfl,hes.lab ge rfl⟩
 have hgp:lab g=(2,i,0):=by
  have:=h.fn.phis i hi
  rw [hp] at this
  exact this.lab g rfl
 have n1:fb≠g:=fun e=>by have:=h.fbl;rw [e,hgp] at this;simp at this
 have n2:G≠g:=fun e=>by have:=hG.2;rw [e,hgp] at this;simp at this
 have n3:bp≠g:=fun e=>by rw [e,hgp] at hbl;simp at hbl
 have n4:ge≠g:=fun e=>by have:=hE.2;rw [e,hgp] at this;simp at this
 have g1:=(cell_of (o:=1) (kb fb h.fbx.lt (by rw [h.fbl];simp))).trans f1
 have g2:=(cell_of (o:=i*6) (kb G hG.1.2 (by rw [hG.2];simp))).trans f2
 have g3:=(cell_of (o:=op+k) (kb bp hbb.2 (by rw [hbl];simp))).trans hbc
 have g4:=(cell_of (o:=d) (kb ge hE.1.2 (by rw [hE.2];simp))).trans f4
 refine ⟨⟨g1,g2,g3,g4⟩,fun a' m=>⟨?_,?_,?_,?_⟩⟩
 ·exact (cell_of (Below.heap_setCell _ _ _ _ n1)).trans g1
 ·exact (cell_of (Below.heap_setCell _ _ _ _ n2)).trans g2
 ·exact (cell_of (Below.heap_setCell _ _ _ _ n3)).trans g3
 ·exact (cell_of (Below.heap_setCell _ _ _ _ n4)).trans g4
end Go.Proofs.YtdfdmjcngkfciaaDoor
