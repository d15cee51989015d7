import Derived.Test.YtdfdmjcngkfciaaDoorDL5
namespace Go.Proofs.YtdfdmjcngkfciaaDoor
open Go.RowKit
variable {w w' : World} {lab : Nat → Nat × Nat × Nat} {base : Nat} {v : Value} {xs : List Blk} {pv iv : Nat → Value} {av : Nat → Nat → Value}
theorem FnL.upd {i:Nat} {L:Nat × Nat × Nat} (h:FnL w lab base v xs pv iv av) (x:Blk) (hk:∀b,base≤b→b<w.heap.size→lab b≠L→w'.heap[b]?=w.heap[b]?) (hL:L=(1,0,0)∨L.2.1=i)
  (hb:RowL w' lab (1,0,0) base 41 6 v xs.length (blksV pv iv (xs.set i x))) (hp:RowL w' lab (2,i,0) base 72 2 (pv i) x.phis.length (phsV (av i) x.phis)) (hq:RowL w' lab (3,i,0) base 68 5 (iv i) x.instrs.length (inssV x.instrs)) (ha:∀j (hj:j<x.phis.length),RowL w' lab (4,i,j) base 2 1 (av i j) x.phis[j].args.length (intsV x.phis[j].args)) :
  FnL w' lab base v (xs.set i x) pv iv av:=by
 have keep:∀{M:Nat × Nat × Nat} {t sz:Nat} {u:Value} {m:Nat} {cs:List Value},RowL w lab M base t sz u m cs→M≠L→RowL w' lab M base t sz u m cs:=fun hr hne=>hr.keep (fun b h1 h2 e=>⟨hk b h1 h2 (by rw [e];exact hne),e⟩)
 have ne:∀q a j,1<q→a≠i→((q,a,j):Nat × Nat × Nat)≠L:=fun q a j h1 h2 e=>by
  rcases hL with hL | hL
  ·rw [hL] at e
   simp at e
   omega
  ·rw [←e] at hL
   exact h2 hL
 refine ⟨by rw [List.length_set];exact hb,fun a ha'=>?_,fun a ha'=>?_,fun a ha' j hj=>?_⟩
 ·by_cases e:a=i
  ·subst e
   simp only [getElem_setSelf]
   exact hp
  ·rw [List.getElem_set_ne (fun e2=>e e2.symm)]
   exact keep (h.phis a (by simpa using ha')) (ne _ _ _ (by decide) e)
 ·by_cases e:a=i
  ·subst e
   simp only [getElem_setSelf]
   exact hq
  ·rw [List.getElem_set_ne (fun e2=>e e2.symm)]
   exact keep (h.ins a (by simpa using ha')) (ne _ _ _ (by decide) e)
 ·by_cases e:a=i
  ·subst e
   simp only [getElem_setSelf] at hj ⊢
   exact ha j hj
  ·simp only [List.getElem_set_ne (fun e2=>e e2.symm)] at hj ⊢
   exact keep (h.args a (by simpa using ha') j hj) (ne _ _ _ (by decide) e)
theorem blksV_same {i:Nat} {x:Blk} (hi:i<xs.length) (hx:x.term=xs[i].term):blksV pv iv (xs.set i x)=blksV pv iv xs:=by
 unfold blksV
 have:xs=xs.set i xs[i]:=(List.set_getElem_self hi).symm
 refine List.ext_getElem? (fun r=>?_)
 have hl:=flatI_len (f:=fun i (x:Blk)=>bkC (pv i) (iv i) x.term) (sz:=6) (fun _ _=>rfl) 0 xs
 have hl2:=flatI_len (f:=fun i (x:Blk)=>bkC (pv i) (iv i) x.term) (sz:=6) (fun _ _=>rfl) 0 (xs.set i x)
 rw [List.length_set] at hl2
 by_cases hr:r<xs.length*6
 ·have hq:r / 6<xs.length:=by omega
  have hqs:r / 6<(xs.set i x).length:=by simpa using hq
  have er:r=r / 6*6+r % 6:=by omega
  have hm:r % 6<6:=Nat.mod_lt _ (by decide)
  rw [er,flatI_at (sz:=6) (fun _ _=>rfl) 0 _ _ hqs _ hm,flatI_at (sz:=6) (fun _ _=>rfl) 0 xs _ hq _ hm]
  by_cases e:i=r / 6
  ·subst e
   rw [getElem_setSelf,hx]
  ·rw [List.getElem_set_ne e]
 ·rw [List.getElem?_eq_none (by omega),List.getElem?_eq_none (by omega)]
theorem set_same {T:Type} {l:List T} {k:Nat} {u:T} (h:l[k]?=some u):l.set k u=l:=by
 refine List.ext_getElem? (fun r=>?_)
 by_cases e:k=r
 ·subst e
  obtain ⟨hk,_⟩:=List.getElem?_eq_some_iff.1 h
  rw [List.getElem?_set_self hk,h]
 ·rw [List.getElem?_set_ne e]
theorem row_n {L:Nat × Nat × Nat} {t sz g n c m:Nat} {cs:List Value} (h:RowL w lab L base t sz (.slice (some ⟨g,0,none⟩) n c) m cs):m=n:=by
 rcases h.own.2 with ⟨e,_⟩ | ⟨_,_,_,e,_⟩
 ·cases e
 ·cases e;rfl
theorem put_keep {L:Nat × Nat × Nat} {g q:Nat} {u:Value} (hg:lab g=L):∀b,base≤b→b<w.heap.size→lab b≠L→(w.setCell ⟨g,q,none⟩ u).heap[b]?=w.heap[b]?:=fun _ _ _ hne=>Below.heap_setCell _ _ _ _ (fun e=>hne (by rw [e];exact hg))
theorem FnL.setDst {i j g n c:Nat} {d:Int} (h:FnL w lab base v xs pv iv av) (hi:i<xs.length) (hj:j<xs[i].phis.length) (hp:pv i=.slice (some ⟨g,0,none⟩) n c) :
  FnL (w.setCell ⟨g,j*2,none⟩ (.int .i64 d)) lab base v (xs.set i (xs[i].setPhi j ⟨d,xs[i].phis[j].args⟩)) pv iv av∧lab g=(2,i,0)∧w.cell? ⟨g,j*2,none⟩=some (.int .i64 xs[i].phis[j].dst)∧(∀q,w.frozen? ⟨g,q,none⟩=false):=by
 have hph:=h.phis i hi
 rw [hp] at hph
 have hn:=row_n hph
 subst hn
 have hgl:=hph.lab g rfl
 have keep:∀{M:Nat × Nat × Nat} {t sz:Nat} {u:Value} {m:Nat} {cs:List Value},RowL w lab M base t sz u m cs→M≠(2,i,0)→RowL (w.setCell ⟨g,j*2,none⟩ (.int .i64 d)) lab M base t sz u m cs:=fun hr hne=>hr.keep (fun b h1 h2 e=>⟨put_keep hgl b h1 h2 (by rw [e];exact hne),e⟩)
 refine ⟨h.upd _ (put_keep hgl) (Or.inr rfl) ?_ ?_ (keep (h.ins i hi) (by simp)) (fun m hm=>?_),hgl,hph.cell ?_,hph.thaw⟩
 ·rw [blksV_same (x:=xs[i].setPhi j ⟨d,xs[i].phis[j].args⟩) hi rfl]
  exact keep h.blks (by simp)
 ·rw [hp]
  show RowL _ lab (2,i,0) base 72 2 _ (xs[i].phis.set j _).length (phsV (av i) (xs[i].phis.set j _))
  rw [List.length_set]
  have es:phsV (av i) (xs[i].phis.set j ⟨d,xs[i].phis[j].args⟩)=(phsV (av i) xs[i].phis).set (j*2+0) (.int .i64 d):=by
   unfold phsV
   refine flatI_set (sz:=2) (fun _ _=>rfl) 0 xs[i].phis j hj _ 0 _ (by decide) ?_ (fun m hm hne=>rfl)
   rfl
  rw [es]
  exact hph.set _ _
 ·have hm':m<xs[i].phis.length:=by simpa [Blk.setPhi] using hm
  have ea:(xs[i].setPhi j ⟨d,xs[i].phis[j].args⟩).phis[m].args=xs[i].phis[m].args:=by
   by_cases e:j=m
   ·subst e
    simp only [Blk.setPhi,getElem_setSelf]
   ·simp only [Blk.setPhi,List.getElem_set_ne e]
  rw [ea]
  exact keep (h.args i hi m hm') (by simp)
 ·unfold phsV
  have:=flatI_at (f:=fun j (p:Ph)=>[Value.int .i64 p.dst,av i j]) (sz:=2) (fun _ _=>rfl) 0 _ j hj 0 (by decide)
  rw [Nat.add_zero] at this
  rw [this,Nat.zero_add]
  rfl
theorem FnL.setArg {i j k g n c:Nat} {d:Int} (h:FnL w lab base v xs pv iv av) (hi:i<xs.length) (hj:j<xs[i].phis.length) (hk:k<xs[i].phis[j].args.length) (hp:av i j=.slice (some ⟨g,0,none⟩) n c) :
  FnL (w.setCell ⟨g,k,none⟩ (.int .i64 d)) lab base v (xs.set i (xs[i].setPhi j ⟨xs[i].phis[j].dst,xs[i].phis[j].args.set k d⟩)) pv iv av∧lab g=(4,i,j)∧w.cell? ⟨g,k,none⟩=some (.int .i64 xs[i].phis[j].args[k])∧(∀q,w.frozen? ⟨g,q,none⟩=false):=by
 have hph:=h.args i hi j hj
 rw [hp] at hph
 have hn:=row_n hph
 subst hn
 have hgl:=hph.lab g rfl
 have keep:∀{M:Nat × Nat × Nat} {t sz:Nat} {u:Value} {m:Nat} {cs:List Value},RowL w lab M base t sz u m cs→M≠(4,i,j)→RowL (w.setCell ⟨g,k,none⟩ (.int .i64 d)) lab M base t sz u m cs:=fun hr hne=>hr.keep (fun b h1 h2 e=>⟨put_keep hgl b h1 h2 (by rw [e];exact hne),e⟩)
 refine ⟨h.upd _ (put_keep hgl) (Or.inr rfl) ?_ ?_ (keep (h.ins i hi) (by simp)) (fun m hm=>?_),hgl,hph.cell ?_,hph.thaw⟩
 ·rw [blksV_same (x:=xs[i].setPhi j ⟨xs[i].phis[j].dst,xs[i].phis[j].args.set k d⟩) hi rfl]
  exact keep h.blks (by simp)
 ·show RowL _ lab (2,i,0) base 72 2 _ (xs[i].phis.set j _).length (phsV (av i) (xs[i].phis.set j _))
  rw [List.length_set]
  have es:phsV (av i) (xs[i].phis.set j ⟨xs[i].phis[j].dst,xs[i].phis[j].args.set k d⟩)=phsV (av i) xs[i].phis:=by
   have h0:=flatI_at (f:=fun j (p:Ph)=>[Value.int .i64 p.dst,av i j]) (sz:=2) (fun _ _=>rfl) 0 _ j hj 0 (by decide)
   unfold phsV
   have e2:=flatI_set (f:=fun j (p:Ph)=>[Value.int .i64 p.dst,av i j]) (f':=fun j (p:Ph)=>[Value.int .i64 p.dst,av i j]) (sz:=2) (fun _ _=>rfl) 0 xs[i].phis j hj ⟨xs[i].phis[j].dst,xs[i].phis[j].args.set k d⟩ 0 (.int .i64 xs[i].phis[j].dst) (by decide) rfl (fun m hm hne=>rfl)
   rw [e2]
   exact set_same (h0.trans rfl)
  rw [es]
  exact keep (h.phis i hi) (by simp)
 ·have hm':m<xs[i].phis.length:=by simpa [Blk.setPhi] using hm
  by_cases e:j=m
  ·subst e
   simp only [Blk.setPhi,getElem_setSelf]
   rw [hp,List.length_set]
   have e3:intsV (xs[i].phis[j].args.set k d)=(intsV xs[i].phis[j].args).set k (.int .i64 d):=by unfold intsV;rw [List.map_set]
   rw [e3]
   exact hph.set _ _
  ·simp only [Blk.setPhi,List.getElem_set_ne e]
   exact keep (h.args i hi m hm') (by simp;exact fun e2=>e e2.symm)
 ·unfold intsV
  simp [hk]
def laid5 (w:World) (g k:Nat) (x:Ins):World:=((((w.setCell ⟨g,k,none⟩ (.int .i64 x.op)).setCell ⟨g,k+1,none⟩ (.int .i64 x.dst)).setCell ⟨g,k+2,none⟩ (.int .i64 x.a)).setCell ⟨g,k+3,none⟩ (.int .i64 x.b)).setCell ⟨g,k+4,none⟩ (.int .i64 x.imm)
theorem FnL.setIns {i j g n c:Nat} {x:Ins} (h:FnL w lab base v xs pv iv av) (hi:i<xs.length) (hj:j<xs[i].instrs.length) (hp:iv i=.slice (some ⟨g,0,none⟩) n c) :
  FnL (laid5 w g (j*5) x) lab base v (xs.set i ⟨xs[i].phis,xs[i].instrs.set j x,xs[i].term⟩) pv iv av∧lab g=(3,i,0)∧InsAt w g (j*5) xs[i].instrs[j]∧(∀q,w.frozen? ⟨g,q,none⟩=false):=by
 have hph:=h.ins i hi
 rw [hp] at hph
 have hn:=row_n hph
 subst hn
 have hgl:=hph.lab g rfl
 have hkp:∀b,base≤b→b<w.heap.size→lab b≠(3,i,0)→(laid5 w g (j*5) x).heap[b]?=w.heap[b]?:=fun b _ _ hne=>by
  have nb:b≠g:=fun e=>hne (by rw [e];exact hgl)
  unfold laid5
  rw [Below.heap_setCell _ _ _ _ nb,Below.heap_setCell _ _ _ _ nb,Below.heap_setCell _ _ _ _ nb,Below.heap_setCell _ _ _ _ nb,Below.heap_setCell _ _ _ _ nb]
 have keep:∀{M:Nat × Nat × Nat} {t sz:Nat} {u:Value} {m:Nat} {cs:List Value},RowL w lab M base t sz u m cs→M≠(3,i,0)→RowL (laid5 w g (j*5) x) lab M base t sz u m cs:=fun hr hne=>hr.keep (fun b h1 h2 e=>⟨hkp b h1 h2 (by rw [e];exact hne),e⟩)
 have cc:∀q u,q<5→(xs[i].instrs[j].cells)[q]?=some u→w.cell? ⟨g,j*5+q,none⟩=some u:=fun q u hq hu=>hph.cell (by
  unfold inssV
  rw [flatI_at (sz:=5) (fun _ _=>rfl) 0 xs[i].instrs j hj q hq]
  exact hu)
 refine ⟨h.upd (L:=(3,i,0)) ⟨xs[i].phis,xs[i].instrs.set j x,xs[i].term⟩ hkp (Or.inr rfl) ?_ (keep (h.phis i hi) (by simp)) ?_ (fun m hm=>keep (h.args i hi m hm) (by simp)),hgl,⟨cc 0 _ (by omega) rfl,cc 1 _ (by omega) rfl,cc 2 _ (by omega) rfl,cc 3 _ (by omega) rfl,cc 4 _ (by omega) rfl⟩,hph.thaw⟩
 ·rw [blksV_same (x:=⟨xs[i].phis,xs[i].instrs.set j x,xs[i].term⟩) hi rfl]
  exact keep h.blks (by simp)
 ·rw [hp]
  show RowL _ lab (3,i,0) base 68 5 _ (xs[i].instrs.set j x).length (inssV (xs[i].instrs.set j x))
  rw [List.length_set]
  have hs:=((((hph.set (j*5) (.int .i64 x.op)).set (j*5+1) (.int .i64 x.dst)).set (j*5+2) (.int .i64 x.a)).set (j*5+3) (.int .i64 x.b)).set (j*5+4) (.int .i64 x.imm)
  have hf:∀(k:Nat) (y:Ins),y.cells.length=5:=fun _ _=>rfl
  have es:inssV (xs[i].instrs.set j x)=(((((inssV xs[i].instrs).set (j*5) (.int .i64 x.op)).set (j*5+1) (.int .i64 x.dst)).set (j*5+2) (.int .i64 x.a)).set (j*5+3) (.int .i64 x.b)).set (j*5+4) (.int .i64 x.imm):=by
   have s1:=flatI_set (f:=fun _ (y:Ins)=>y.cells) (f':=fun _ (y:Ins)=>y.cells) hf 0 xs[i].instrs j hj ⟨x.op,xs[i].instrs[j].dst,xs[i].instrs[j].a,xs[i].instrs[j].b,xs[i].instrs[j].imm⟩ 0 (.int .i64 x.op) (by decide) rfl (fun _ _ _=>rfl)
   have hl:=fun (y:Ins)=>(show j<(xs[i].instrs.set j y).length by simpa using hj)
   have s2:=flatI_set (f:=fun _ (y:Ins)=>y.cells) (f':=fun _ (y:Ins)=>y.cells) hf 0 (xs[i].instrs.set j ⟨x.op,xs[i].instrs[j].dst,xs[i].instrs[j].a,xs[i].instrs[j].b,xs[i].instrs[j].imm⟩) j (hl _) ⟨x.op,x.dst,xs[i].instrs[j].a,xs[i].instrs[j].b,xs[i].instrs[j].imm⟩ 1 (.int .i64 x.dst) (by decide) (by rw [getElem_setSelf];rfl) (fun _ _ _=>rfl)
   rw [List.set_set] at s2
   have s3:=flatI_set (f:=fun _ (y:Ins)=>y.cells) (f':=fun _ (y:Ins)=>y.cells) hf 0 (xs[i].instrs.set j ⟨x.op,x.dst,xs[i].instrs[j].a,xs[i].instrs[j].b,xs[i].instrs[j].imm⟩) j (hl _) ⟨x.op,x.dst,x.a,xs[i].instrs[j].b,xs[i].instrs[j].imm⟩ 2 (.int .i64 x.a) (by decide) (by rw [getElem_setSelf];rfl) (fun _ _ _=>rfl)
   rw [List.set_set] at s3
   have s4:=flatI_set (f:=fun _ (y:Ins)=>y.cells) (f':=fun _ (y:Ins)=>y.cells) hf 0 (xs[i].instrs.set j ⟨x.op,x.dst,x.a,xs[i].instrs[j].b,xs[i].instrs[j].imm⟩) j (hl _) ⟨x.op,x.dst,x.a,x.b,xs[i].instrs[j].imm⟩ 3 (.int .i64 x.b) (by decide) (by rw [getElem_setSelf];rfl) (fun _ _ _=>rfl)
   rw [List.set_set] at s4
   have s5:=flatI_set (f:=fun _ (y:Ins)=>y.cells) (f':=fun _ (y:Ins)=>y.cells) hf 0 (xs[i].instrs.set j ⟨x.op,x.dst,x.a,x.b,xs[i].instrs[j].imm⟩) j (hl _) x 4 (.int .i64 x.imm) (by decide) (by rw [getElem_setSelf];rfl) (fun _ _ _=>rfl)
   rw [List.set_set] at s5
   unfold inssV
   rw [s5,s4,s3,s2,s1,Nat.add_zero]
  rw [es]
  exact hs
theorem FnL.setTerA {i g n c:Nat} {d:Int} (h:FnL w lab base (.slice (some ⟨g,0,none⟩) n c) xs pv iv av) (hi:i<xs.length) :
  FnL (w.setCell ⟨g,i*6+3,none⟩ (.int .i64 d)) lab base (.slice (some ⟨g,0,none⟩) n c) (xs.set i ⟨xs[i].phis,xs[i].instrs,⟨xs[i].term.kind,d,xs[i].term.to,xs[i].term.els⟩⟩) pv iv av∧lab g=(1,0,0)∧(∀q,w.frozen? ⟨g,q,none⟩=false):=by
 have hph:=h.blks
 have hn:=row_n hph
 subst hn
 have hgl:=hph.lab g rfl
 have keep:∀{M:Nat × Nat × Nat} {t sz:Nat} {u:Value} {m:Nat} {cs:List Value},RowL w lab M base t sz u m cs→M≠(1,0,0)→RowL (w.setCell ⟨g,i*6+3,none⟩ (.int .i64 d)) lab M base t sz u m cs:=fun hr hne=>hr.keep (fun b h1 h2 e=>⟨put_keep hgl b h1 h2 (by rw [e];exact hne),e⟩)
 refine ⟨h.upd (L:=(1,0,0)) ⟨xs[i].phis,xs[i].instrs,⟨xs[i].term.kind,d,xs[i].term.to,xs[i].term.els⟩⟩ (put_keep hgl) (Or.inl rfl) ?_ (keep (h.phis i hi) (by simp)) (keep (h.ins i hi) (by simp)) (fun m hm=>keep (h.args i hi m hm) (by simp)),hgl,hph.thaw⟩
 have es:blksV pv iv (xs.set i ⟨xs[i].phis,xs[i].instrs,⟨xs[i].term.kind,d,xs[i].term.to,xs[i].term.els⟩⟩)=(blksV pv iv xs).set (i*6+3) (.int .i64 d):=by
  unfold blksV
  refine flatI_set (sz:=6) (fun _ _=>rfl) 0 xs i hi _ 3 _ (by decide) rfl (fun _ _ _=>rfl)
 rw [es]
 exact hph.set _ _
theorem FnL.cells {i g n c:Nat} (h:FnL w lab base (.slice (some ⟨g,0,none⟩) n c) xs pv iv av) (hi:i<xs.length):w.cell? ⟨g,i*6,none⟩=some (pv i)∧w.cell? ⟨g,i*6+1,none⟩=some (iv i)∧TerAt w g (i*6+2) xs[i].term:=by
 have hb:=h.blks
 have hn:=row_n hb
 subst hn
 have cc:∀q u,q<6→(bkC (pv i) (iv i) xs[i].term)[q]?=some u→w.cell? ⟨g,i*6+q,none⟩=some u:=fun q u hq hu=>hb.cell (by
  unfold blksV
  rw [flatI_at (fun _ _=>bkC_len _ _ _) 0 xs i hi q hq,Nat.zero_add]
  exact hu)
 exact ⟨cc 0 _ (by omega) rfl,cc 1 _ (by omega) rfl,cc 2 _ (by omega) rfl,cc 3 _ (by omega) rfl,cc 4 _ (by omega) rfl,cc 5 _ (by omega) rfl⟩
theorem FnL.phiCells {i j g n c:Nat} (h:FnL w lab base v xs pv iv av) (hi:i<xs.length) (hj:j<xs[i].phis.length) (hp:pv i=.slice (some ⟨g,0,none⟩) n c):w.cell? ⟨g,j*2,none⟩=some (.int .i64 xs[i].phis[j].dst)∧w.cell? ⟨g,j*2+1,none⟩=some (av i j):=by
 have hph:=h.phis i hi
 rw [hp] at hph
 have hn:=row_n hph
 subst hn
 have cc:∀q u,q<2→([.int .i64 xs[i].phis[j].dst,av i j]:List Value)[q]?=some u→w.cell? ⟨g,j*2+q,none⟩=some u:=fun q u hq hu=>hph.cell (by
  unfold phsV
  rw [flatI_at (sz:=2) (fun _ _=>rfl) 0 _ j hj q hq,Nat.zero_add]
  exact hu)
 exact ⟨cc 0 _ (by omega) rfl,cc 1 _ (by omega) rfl⟩
end Go.Proofs.YtdfdmjcngkfciaaDoor

namespace Go.Proofs.YtdfdmjcngkfciaaDoor
open Go.RowKit
theorem other_any (b:Int) (n:Nat) (w:World) (h0:0≤b) (hb:b≤1000000) (hn:n≤1000000) :
  Calls Tryd.prog 61 #[.int .i64 b,.int .i64 (n:Int)] w fun e w'=>e=.returned (.int .i64 (othZ b n))∧w'=w:=by
 have HO:Hid (othZ b n=if b=0 then 0 else (n:Int)-b):=hide rfl
 by_cases h:b=0
 ·rw [if_pos h] at HO
  have hb0:(b==0)=true:=by simpa using h
  clear h
  go_enter Tryd.func61,Tryd.ntmps61
  go_wp2
  go_ret
  rw [HO.out]
  exact ⟨rfl,rfl⟩
 ·rw [if_neg h] at HO
  have hb0:(b==0)=false:=by simpa using h
  clear h
  go_enter Tryd.func61,Tryd.ntmps61
  go_wp2
  go_ret
  rw [HO.out]
  exact ⟨rfl,rfl⟩
def setA (x:Ins) (v:Int):Ins:=⟨x.op,x.dst,v,x.b,x.imm⟩
def looseT (xs:List Blk) (b:Nat) (v:Int) (s:Sr):List Blk × Sr :=
 if (xs.getD b dBlk).term.kind≠1 then (xs.set b ⟨(xs.getD b dBlk).phis,(xs.getD b dBlk).instrs,⟨(xs.getD b dBlk).term.kind,v,(xs.getD b dBlk).term.to,(xs.getD b dBlk).term.els⟩⟩,s) else (xs,s)
def looseI (xs:List Blk) (b:Nat) (v:Int) (s:Sr):List Blk × Sr :=
 if 0<(xs.getD b dBlk).instrs.length then
  if aB ((xs.getD b dBlk).instrs.getD (nextP s (xs.getD b dBlk).instrs.length).1.toNat ⟨0,0,0,0,0⟩).op=true then
   (xs.set b ⟨(xs.getD b dBlk).phis,(xs.getD b dBlk).instrs.set (nextP s (xs.getD b dBlk).instrs.length).1.toNat (setA ((xs.getD b dBlk).instrs.getD (nextP s (xs.getD b dBlk).instrs.length).1.toNat ⟨0,0,0,0,0⟩) v),(xs.getD b dBlk).term⟩,(nextP s (xs.getD b dBlk).instrs.length).2)
  else looseT xs b v (nextP s (xs.getD b dBlk).instrs.length).2
 else looseT xs b v s
def looseB (xs:List Blk) (b:Nat) (v:Int) (s:Sr):List Blk × Sr :=
 if 0<(xs.getD b dBlk).phis.length then
  if (nextP s 3).1=0 then
   (xs.set b ((xs.getD b dBlk).setPhi 0 ⟨((xs.getD b dBlk).phis.getD 0 dPh).dst,((xs.getD b dBlk).phis.getD 0 dPh).args.set (nextP (nextP s 3).2 ((xs.getD b dBlk).phis.getD 0 dPh).args.length).1.toNat v⟩),(nextP (nextP s 3).2 ((xs.getD b dBlk).phis.getD 0 dPh).args.length).2)
  else looseI xs b v (nextP s 3).2
 else looseI xs b v s
def looseP (V:Nat) (xs:List Blk) (s:Sr):List Blk × Sr:=looseB xs (nextP s xs.length).1.toNat (nextP (nextP s xs.length).2 V).1 (nextP (nextP s xs.length).2 V).2
theorem FnL.setInsA {w:World} {lab:Nat→Nat × Nat × Nat} {base:Nat} {v:Value} {xs:List Blk} {pv iv:Nat→Value} {av:Nat→Nat→Value} {i j g n c:Nat} {d:Int} (h:FnL w lab base v xs pv iv av) (hi:i<xs.length) (hj:j<xs[i].instrs.length) (hp:iv i=.slice (some ⟨g,0,none⟩) n c) :
  FnL (w.setCell ⟨g,j*5+2,none⟩ (.int .i64 d)) lab base v (xs.set i ⟨xs[i].phis,xs[i].instrs.set j (setA xs[i].instrs[j] d),xs[i].term⟩) pv iv av∧lab g=(3,i,0)∧InsAt w g (j*5) xs[i].instrs[j]∧(∀q,w.frozen? ⟨g,q,none⟩=false):=by
 have hph:=h.ins i hi
 rw [hp] at hph
 have hn:=row_n hph
 subst hn
 have hgl:=hph.lab g rfl
 have keep:∀{M:Nat × Nat × Nat} {t sz:Nat} {u:Value} {m:Nat} {cs:List Value},RowL w lab M base t sz u m cs→M≠(3,i,0)→RowL (w.setCell ⟨g,j*5+2,none⟩ (.int .i64 d)) lab M base t sz u m cs:=fun hr hne=>hr.keep (fun b h1 h2 e=>⟨put_keep hgl b h1 h2 (by rw [e];exact hne),e⟩)
 have cc:∀q u,q<5→(xs[i].instrs[j].cells)[q]?=some u→w.cell? ⟨g,j*5+q,none⟩=some u:=fun q u hq hu=>hph.cell (by
  unfold inssV
  rw [flatI_at (sz:=5) (fun _ _=>rfl) 0 xs[i].instrs j hj q hq]
  exact hu)
 refine ⟨h.upd (L:=(3,i,0)) ⟨xs[i].phis,xs[i].instrs.set j (setA xs[i].instrs[j] d),xs[i].term⟩ (put_keep hgl) (Or.inr rfl) ?_ (keep (h.phis i hi) (by simp)) ?_ (fun m hm=>keep (h.args i hi m hm) (by simp)),hgl,⟨cc 0 _ (by omega) rfl,cc 1 _ (by omega) rfl,cc 2 _ (by omega) rfl,cc 3 _ (by omega) rfl,cc 4 _ (by omega) rfl⟩,hph.thaw⟩
 ·rw [blksV_same (x:=⟨xs[i].phis,xs[i].instrs.set j (setA xs[i].instrs[j] d),xs[i].term⟩) hi rfl]
  exact keep h.blks (by simp)
 ·rw [hp]
  show RowL _ lab (3,i,0) base 68 5 _ (xs[i].instrs.set j _).length (inssV (xs[i].instrs.set j _))
  rw [List.length_set]
  have es:inssV (xs[i].instrs.set j (setA xs[i].instrs[j] d))=(inssV xs[i].instrs).set (j*5+2) (.int .i64 d):=by
   unfold inssV
   exact flatI_set (sz:=5) (fun _ _=>rfl) 0 xs[i].instrs j hj _ 2 _ (by decide) rfl (fun _ _ _=>rfl)
  rw [es]
  exact hph.set _ _
structure LsS (w wr:World) (lab:Nat→Nat × Nat × Nat) (base sb B:Nat) (s:Sr) (v G n c:Nat) (xs:List Blk) (pv iv:Nat→Value) (av:Nat→Nat→Value):Prop where
 fn:FnL wr lab base (.slice (some ⟨G,0,none⟩) n c) xs pv iv av
 dr:DrA wr sb B s
 bb:B≤base
 os:wr.os=w.os
 tape:wr.tape=w.tape
 output:wr.output=w.output
 size:w.heap.size≤wr.heap.size
 low:∀b,b<base→b≠sb→wr.heap[b]?=w.heap[b]?
 fr:∀b,w.heap.size≤b→lab b=(0,0,0)
 bs:base≤w.heap.size
 box:Bx wr w.heap.size #[.int .i64 (v:Int),.slice (some ⟨G,0,none⟩) n c] 25
 res:Bx wr (w.heap.size+1) #[.int .i64 0,.slice none 0 0] 25
variable {w wr w' : World} {lab : Nat → Nat × Nat × Nat} {base sb B : Nat} {s s' : Sr} {v G n c : Nat} {xs xs' : List Blk} {pv iv : Nat → Value} {av : Nat → Nat → Value}
theorem LsS.lt (h:LsS w wr lab base sb B s v G n c xs pv iv av):sb<base:=by have:=h.bb;have:=h.dr.bB;omega
theorem LsS.call (h:LsS w wr lab base sb B s v G n c xs pv iv av) (g:wr.grownBy w' (some sb)) (d:DrA w' sb B s'):LsS w w' lab base sb B s' v G n c xs pv iv av:=by
 have k:SpL wr w' lab lab base (fun _=>True):=SpL.grown g h.lt
 have hl:=h.lt
 have hb:=h.bs
 have hsz:=h.size
 exact ⟨h.fn.sp k 0 (fun _ _ _ _ _=>trivial) (Or.inl (fun _ _=>trivial)),d,h.bb,g.os.trans h.os,g.tape.trans h.tape,g.output.trans h.output,Nat.le_trans h.size g.size,fun b h1 h2=>(g.block b (by omega) (fun e=>h2 (by injection e))).trans (h.low b h1 h2),h.fr,h.bs,h.box.grown g (by intro e;injection e;omega),h.res.grown g (by intro e;injection e;omega)⟩
theorem LsS.alloc (h:LsS w wr lab base sb B s v G n c xs pv iv av) (o:Obj):LsS w (wr.alloc o) lab base sb B s v G n c xs pv iv av:=h.call (World.grownBy_alloc wr o (some sb)) (h.dr.box o)
theorem LsS.drew (h:LsS w wr lab base sb B s v G n c xs pv iv av):LsS w wr.drew lab base sb B s v G n c xs pv iv av:=h.call ⟨rfl,rfl,rfl,Nat.le_refl _,fun _ _ _=>rfl⟩ h.dr.drew
theorem LsS.put {g q:Nat} {u:Value} (h:LsS w wr lab base sb B s v G n c xs pv iv av) (hf:FnL (wr.setCell ⟨g,q,none⟩ u) lab base (.slice (some ⟨G,0,none⟩) n c) xs' pv iv av) (hg:lab g≠(0,0,0)) (hb:base≤g):LsS w (wr.setCell ⟨g,q,none⟩ u) lab base sb B s v G n c xs' pv iv av:=by
 have hbb:=h.bb
 have n0:w.heap.size≠g:=fun e=>hg (h.fr g (by omega))
 have n1:w.heap.size+1≠g:=fun e=>hg (h.fr g (by omega))
 exact ⟨hf,h.dr.put (by omega),h.bb,h.os,h.tape,h.output,by simpa [World.setCell] using h.size,fun b h1 h2=>(Below.heap_setCell _ _ _ _ (by show b≠g;omega)).trans (h.low b h1 h2),h.fr,h.bs,h.box.other n0,h.res.other n1⟩
end Go.Proofs.YtdfdmjcngkfciaaDoor
