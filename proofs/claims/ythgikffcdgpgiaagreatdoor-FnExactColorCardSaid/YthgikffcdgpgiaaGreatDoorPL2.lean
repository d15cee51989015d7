import Derived.Test.YthgikffcdgpgiaaGreatDoorW10
import Derived.Test.YthgikffcdgpgiaaGreatDoorFQ0
import Derived.Test.YthgikffcdgpgiaaGreatDoorRFN
import Derived.Test.YthgikffcdgpgiaaGreatDoorCL1
import Derived.Test.YthgikffcdgpgiaaGreatDoorFV1
import Derived.Test.YthgikffcdgpgiaaGreatDoorOC2
import Derived.Test.YthgikffcdgpgiaaGreatDoorSP0
import Derived.Test.YthgikffcdgpgiaaGreatDoorWS0
import Derived.Test.YthgikffcdgpgiaaGreatDoorW14b
namespace Go.Proofs.YthgikffcdgpgiaaGreatDoor
open Go.RowKit Go.Shelf
attribute [local go_sem] Oper.semAt_some
structure Stc2 (x:Blk) (L B Bx n₀ n₁:Nat) (V:World):Prop where
 op:OpTabW V
 ter:TerTabW V
 blk:BlkAt V L B Bx 0 x
 lt:Bx<n₁
 le:B≤n₀
 g1:0 < n₀
 g2:2 < n₀
 nn:n₀≤n₁
theorem Stc2.same {x:Blk} {L B Bx n₀ n₁:Nat} {V V':World} (h:Stc2 x L B Bx n₀ n₁ V) (e:∀k,k<n₁→V'.heap[k]?=V.heap[k]?) (hs:V.heap.size≤V'.heap.size):Stc2 x L B Bx n₀ n₁ V' :=
 ⟨h.op.of_block (e _ (Nat.lt_of_lt_of_le h.g1 h.nn)) hs,h.ter.of_block (e _ (Nat.lt_of_lt_of_le h.g2 h.nn)) hs,h.blk.keepS (fun k _ h2=>e k (Nat.lt_of_lt_of_le (Nat.lt_of_lt_of_le h2 h.le) h.nn)) (e _ h.lt),h.lt,h.le,h.g1,h.g2,h.nn⟩
theorem Stc2.below {x:Blk} {L B Bx n₀ n₁:Nat} {V V':World} (h:Stc2 x L B Bx n₀ n₁ V) (k:Below V.heap.size V V') (hn:n₁≤V.heap.size):Stc2 x L B Bx n₀ n₁ V':=h.same (fun i hi=>k.block i (by omega)) k.size
theorem Stc2.kp {x:Blk} {L B Bx n₀ n₁:Nat} {Ms:Nat→Prop} {V V':World} (h:Stc2 x L B Bx n₀ n₁ V) (k:KpB n₀ Ms V V') (hM:∀k,L≤k→k<B→¬Ms k) (hMx:¬Ms Bx) (hM1:¬Ms 0) (hM2:¬Ms 2):Stc2 x L B Bx n₀ n₁ V':=by
 have hb:V'.heap[Bx]?=V.heap[Bx]?:=by
  obtain ⟨pa,pc,ia,ic,e0,_⟩:=h.blk
  exact k.block e0 hMx
 exact ⟨h.op.of_block (k.low _ h.g1 hM1) k.size,h.ter.of_block (k.low _ h.g2 hM2) k.size,h.blk.keepS (fun i h1 h2=>k.low i (Nat.lt_of_lt_of_le h2 h.le) (hM i h1 h2)) hb,h.lt,h.le,h.g1,h.g2,h.nn⟩
end Go.Proofs.YthgikffcdgpgiaaGreatDoor

namespace Go.Proofs.YthgikffcdgpgiaaGreatDoor
def defI (y:Ins):Int:=if dB y.op then y.dst else -1
def bareF (v:Int) (fin:Bool):List Ins→Nat
 | []=>if fin then 1 else 0
 | y::ys=>if hasI (rdI y) v then 1 else if defI y=v then 2 else bareF v fin ys
def bareM (x:Blk) (E:List Int) (v:Int):Nat:=bareF v (hasI (rdT x.term) v||hasI E v) x.instrs
def stepY (W:Nat→Nat) (y:Ins):Nat→Nat:=addsN (delsN W (natL (writesI y))) (natL (rdI y))
theorem hasI_iff {l:List Int} {v:Int}:hasI l v=true↔v∈l:=by unfold hasI;exact List.contains_iff_mem
theorem has_stepY {W:Nat→Nat} {y:Ins} (h1:∀v∈rdI y,0≤v) (h2:∀v∈writesI y,0≤v) (v:Nat):hasN (stepY W y) v=true↔(v:Int)∈rdI y∨((v:Int) ∉ writesI y∧hasN W v=true):=by
 unfold stepY
 rw [has_adds,has_dels,Bool.or_eq_true,decide_eq_true_eq,mem_natL h1,Bool.and_eq_true,decide_eq_true_eq,mem_natL h2]
theorem def_writes {y:Ins} {v:Nat}:defI y=(v:Int)↔(v:Int)∈writesI y:=by
 unfold defI writesI
 by_cases e:dB y.op=true
 ·rw [if_pos e,if_pos e];simp [eq_comm]
 ·rw [if_neg e,if_neg e];simp
theorem foldY {v:Nat} {W:Nat→Nat}:∀(ys:List Ins),(∀y∈ys,(∀v∈rdI y,0≤v)∧∀v∈writesI y,0≤v)→(hasN (ys.foldr (fun y acc=>stepY acc y) W) v=true↔bareF (v:Int) (hasN W v) ys=1)
 | [],_=>by
  unfold bareF
  cases h:hasN W v<;>simp [h]
 | y::ys,hy=>by
  have ih:=foldY (v:=v) (W:=W) ys (fun z hz=>hy z (List.mem_cons_of_mem _ hz))
  have h0:=hy y List.mem_cons_self
  rw [List.foldr_cons,has_stepY h0.1 h0.2,ih]
  show _↔(if hasI (rdI y) (v:Int) then 1 else if defI y=(v:Int) then 2 else bareF (v:Int) (hasN W v) ys)=1
  by_cases e1:(v:Int)∈rdI y
  ·rw [if_pos (hasI_iff.2 e1)];simp [e1]
  ·rw [if_neg (fun h=>e1 (hasI_iff.1 h))]
   by_cases e2:(v:Int)∈writesI y
   ·rw [if_pos (def_writes.2 e2)];simp [e1,e2]
   ·rw [if_neg (fun h=>e2 (def_writes.1 h))];simp [e1,e2]
theorem bwF_map {α β:Type} (l:List α) (g:Fin l.length→β):(bwF l.length 0).map g=((List.finRange l.length).map g).reverse:=by
 unfold bwF
 rw [List.take_of_length_le (by simp),List.map_reverse]
theorem fin_map {α:Type} (l:List α):(List.finRange l.length).map (fun j=>l[j])=l:=by
 apply List.ext_getElem
 ·simp
 ·intro i h1 h2
  simp
theorem bw_fold (x:Blk) (W:Nat→Nat):((bwF x.instrs.length 0).map (plI x)).foldl stepI W=x.instrs.foldr (fun y acc=>stepY acc y) W:=by
 rw [bwF_map,List.foldl_reverse]
 conv=>rhs;rw [←fin_map x.instrs]
 rw [List.foldr_map,List.foldr_map]
 rfl
theorem inW_iff {x:Blk} {W:Nat→Nat} {v:Nat} (hy:∀y∈x.instrs,(∀v∈rdI y,0≤v)∧∀v∈writesI y,0≤v) (ht:∀v∈rdT x.term,0≤v) (hp:∀p∈x.phis,0≤p.dst) :
  hasN (inW x W) v=true↔(v:Int) ∉ x.phis.map Ph.dst∧bareF (v:Int) (hasI (rdT x.term) (v:Int)||hasN W v) x.instrs=1:=by
 unfold inW plL
 rw [List.foldl_cons,List.foldl_append,List.foldl_cons,List.foldl_nil,bw_fold]
 have hd:∀v∈x.phis.map Ph.dst,0≤v:=fun v hv=>by obtain ⟨p,h1,rfl⟩:=List.mem_map.1 hv;exact hp p h1
 show hasN (addsN (delsN _ (natL (x.phis.map Ph.dst))) (natL [])) v=true↔_
 rw [has_adds,has_dels,Bool.or_eq_true,decide_eq_true_eq,Bool.and_eq_true,decide_eq_true_eq,mem_natL hd]
 rw [foldY x.instrs hy]
 have e:hasN (stepI W (x.instrs.length+1,rdT x.term,[])) v=(hasI (rdT x.term) (v:Int)||hasN W v):=by
  show hasN (addsN (delsN W (natL [])) (natL (rdT x.term))) v=_
  rw [has_adds,has_dels,Bool.eq_iff_iff,Bool.or_eq_true,Bool.or_eq_true,decide_eq_true_eq,mem_natL ht,hasI_iff]
  simp [natL]
 rw [e]
 simp [natL]
theorem dfW_iff {x:Blk} {v:Nat} (hy:∀y∈x.instrs,∀v∈writesI y,0≤v) (hp:∀p∈x.phis,0≤p.dst):hasN (dfW x) v=true↔(v:Int)∈x.phis.map Ph.dst∨∃y∈x.instrs,(v:Int)∈writesI y:=by
 have hf:∀(l:List (Nat × List Int × List Int)) (W:Nat→Nat),hasN (l.foldl stepD W) v=true↔hasN W v=true∨∃q∈l,v∈natL q.2.2:=by
  intro l
  induction l with
  | nil=>intro W;simp
  | cons q l ih =>
   intro W
   rw [List.foldl_cons,ih]
   unfold stepD
   rw [has_adds,Bool.or_eq_true,decide_eq_true_eq]
   simp only [List.mem_cons,exists_eq_or_imp]
   constructor
   ·rintro ((h | h) | h)
    ·exact Or.inr (Or.inl h)
    ·exact Or.inl h
    ·exact Or.inr (Or.inr h)
   ·rintro (h | h | h)
    ·exact Or.inl (Or.inr h)
    ·exact Or.inl (Or.inl h)
    ·exact Or.inr h
 have hd:∀v∈x.phis.map Ph.dst,0≤v:=fun v hv=>by obtain ⟨p,h1,rfl⟩:=List.mem_map.1 hv;exact hp p h1
 unfold dfW
 rw [hf,has_none]
 unfold plL
 constructor
 ·rintro (h | ⟨q,hq,hv⟩)
  ·cases h
  ·rcases List.mem_cons.1 hq with rfl | hq
   ·simp [natL] at hv
   ·rcases List.mem_append.1 hq with hq | hq
    ·obtain ⟨j,_,rfl⟩:=List.mem_map.1 hq
     exact Or.inr ⟨x.instrs[j],List.getElem_mem _,(mem_natL (hy _ (List.getElem_mem _))).1 hv⟩
    ·rw [List.mem_singleton.1 hq] at hv
     exact Or.inl ((mem_natL hd).1 hv)
 ·rintro (h | ⟨y,hy',hv⟩)
  ·exact Or.inr ⟨_,plL_last x,(mem_natL hd).2 h⟩
  ·obtain ⟨j,hj,rfl⟩:=List.getElem_of_mem hy'
   exact Or.inr ⟨_,plI_mem x ⟨j,hj⟩,(mem_natL (hy _ (List.getElem_mem _))).2 hv⟩
theorem bareF_zero {v:Nat} {fin:Bool}:∀(ys:List Ins),bareF (v:Int) fin ys=0→∀y∈ys,(v:Int) ∉ writesI y
 | [],_,_,h=>by cases h
 | z::zs,h,y,hy=>by
  have h':(if hasI (rdI z) (v:Int) then 1 else if defI z=(v:Int) then 2 else bareF (v:Int) fin zs)=0:=h
  by_cases e1:hasI (rdI z) (v:Int)=true
  ·rw [if_pos e1] at h';cases h'
  ·rw [if_neg e1] at h'
   by_cases e2:defI z=(v:Int)
   ·rw [if_pos e2] at h';cases h'
   ·rw [if_neg e2] at h'
    rcases List.mem_cons.1 hy with rfl | hy
    ·exact fun h3=>e2 (def_writes.2 h3)
    ·exact bareF_zero zs h' y hy
theorem bareF_two {v:Nat} {fin:Bool}:∀(ys:List Ins),(∀y∈ys,(v:Int) ∉ writesI y)→bareF (v:Int) fin ys≠2
 | [],_=>by unfold bareF;split<;>simp
 | z::zs,h=>by
  show (if hasI (rdI z) (v:Int) then 1 else if defI z=(v:Int) then 2 else bareF (v:Int) fin zs)≠2
  by_cases e1:hasI (rdI z) (v:Int)=true
  ·rw [if_pos e1];simp
  ·rw [if_neg e1,if_neg (fun e2=>h z List.mem_cons_self (def_writes.1 e2))]
   exact bareF_two zs (fun y hy=>h y (List.mem_cons_of_mem _ hy))
theorem bareF_le {v:Int} {fin:Bool}:∀(ys:List Ins),bareF v fin ys≤2
 | []=>by unfold bareF;split<;>simp
 | z::zs=>by
  show (if hasI (rdI z) v then 1 else if defI z=v then 2 else bareF v fin zs)≤2
  split
  ·decide
  ·split
   ·decide
   ·exact bareF_le zs
theorem bareF_one {v:Int} {fin:Bool}:∀(ys:List Ins),bareF v fin ys=1→fin=true∨∃y∈ys,v∈rdI y
 | [],h=>by
  have h':(if fin then 1 else 0)=1:=h
  cases fin<;>simp_all
 | z::zs,h=>by
  have h':(if hasI (rdI z) v then 1 else if defI z=v then 2 else bareF v fin zs)=1:=h
  by_cases e1:hasI (rdI z) v=true
  ·exact Or.inr ⟨z,List.mem_cons_self,hasI_iff.1 e1⟩
  ·rw [if_neg e1] at h'
   by_cases e2:defI z=v
   ·rw [if_pos e2] at h';cases h'
   ·rw [if_neg e2] at h'
    rcases bareF_one zs h' with h3 | ⟨y,hy,h3⟩
    ·exact Or.inl h3
    ·exact Or.inr ⟨y,List.mem_cons_of_mem _ hy,h3⟩
def edgeU (xs:List Blk) (p t:Int):List Int:=match xs[t.toNat]? with
 | none=>[]
 | some x=>if x.phis=[] then [] else (List.range (predsFrom xs 0 t).length).flatMap fun i=>if (predsFrom xs 0 t).getD i 0=p then x.phis.map (fun h=>h.args.getD i 0) else []
def edgesM (xs:List Blk) (b:Nat):List Int:=match xs[b]? with
 | none=>[]
 | some x=>x.term.targets.flatMap (edgeU xs (b:Int))
theorem edges_iff {V:Nat} {xs:List Blk} (ho:OkL V xs) {b:Nat} (hb:b<xs.length) {v:Nat}:(v:Int)∈edgesM xs b↔(b,v)∈phE xs xs.length:=by
 have hT0:∀x∈xs,∀t∈x.term.targets,0≤t:=fun x hx t ht=>(ho.okf.tgt x hx t ht).1
 have hE:(v:Int)∈edgesM xs b↔∃t:Nat,∃ht:t<xs.length,∃i,i<(predN xs xs.length t).length∧(predN xs xs.length t).getD i 0=b∧∃p∈xs[t].phis,p.args.getD i 0=(v:Int):=by
  unfold edgesM
  rw [List.getElem?_eq_getElem hb]
  simp only [List.mem_flatMap]
  constructor
  ·rintro ⟨t,ht,hv⟩
   have h0:=ho.okf.tgt _ (List.getElem_mem hb) t ht
   obtain ⟨k,rfl⟩:=Int.eq_ofNat_of_zero_le h0.1
   have hk:k<xs.length:=by have:=h0.2;omega
   refine ⟨k,hk,?_⟩
   unfold edgeU at hv
   rw [Int.toNat_natCast,List.getElem?_eq_getElem hk] at hv
   simp only at hv
   by_cases e:xs[k].phis=[]
   ·rw [if_pos e] at hv;cases hv
   ·rw [if_neg e] at hv
    obtain ⟨i,hi,h2⟩:=List.mem_flatMap.1 hv
    rw [preds_all hT0] at hi h2
    have hi':i<(predN xs xs.length k).length:=by simpa [natI] using hi
    by_cases e2:(natI (predN xs xs.length k)).getD i 0=(b:Int)
    ·rw [if_pos e2] at h2
     obtain ⟨p,h3,h4⟩:=List.mem_map.1 h2
     refine ⟨i,hi',?_,p,h3,h4⟩
     simp only [natI,List.getD_eq_getElem?_getD,List.getElem?_map,List.getElem?_eq_getElem hi',Option.map_some,Option.getD_some] at e2 ⊢
     have:((predN xs xs.length k)[i]:Int)=(b:Int):=e2
     omega
    ·rw [if_neg e2] at h2;cases h2
  ·rintro ⟨t,ht,i,hi,h1,p,h2,h3⟩
   have hm:b∈predN xs xs.length t:=by
    rw [←h1,List.getD_eq_getElem?_getD,List.getElem?_eq_getElem hi]
    exact List.getElem_mem hi
   have htg:(t:Int)∈xs[b].term.targets:=by
    have:=(predN_mem.1 hm).2
    rw [tgN_at hb] at this
    obtain ⟨z,hz,e⟩:=List.mem_map.1 this
    have:=hT0 _ (List.getElem_mem hb) z hz
    rw [show (t:Int)=z by omega]
    exact hz
   refine ⟨(t:Int),htg,?_⟩
   unfold edgeU
   rw [Int.toNat_natCast,List.getElem?_eq_getElem ht]
   simp only
   rw [if_neg (fun e=>by rw [e] at h2;cases h2),preds_all hT0]
   refine List.mem_flatMap.2 ⟨i,by simpa [natI] using hi,?_⟩
   rw [if_pos (by
    simp only [natI,List.getD_eq_getElem?_getD,List.getElem?_map,List.getElem?_eq_getElem hi,Option.map_some,Option.getD_some] at h1 ⊢
    show ((predN xs xs.length t)[i]:Int)=(b:Int)
    rw [h1])]
   exact List.mem_map.2 ⟨p,h2,h3⟩
 rw [hE]
 unfold phE phB phT
 rw [List.mem_flatMap]
 constructor
 ·rintro ⟨t,ht,i,hi,h1,p,h2,h3⟩
  refine ⟨t,List.mem_range.2 ht,?_⟩
  rw [List.getElem?_eq_getElem ht]
  refine List.mem_flatMap.2 ⟨p,h2,?_⟩
  have hl:=(ho.pha t ht p h2).1
  rw [preds_all hT0] at hl
  have hl':p.args.length=(predN xs xs.length t).length:=by simpa [natI] using hl
  have hi2:i<p.args.length:=by omega
  rw [List.getD_eq_getElem?_getD,List.getElem?_eq_getElem hi2] at h3
  rw [List.getD_eq_getElem?_getD,List.getElem?_eq_getElem hi] at h1
  have hz:i<((predN xs xs.length t).zip (natL p.args)).length:=by simp [natL];omega
  have e:((predN xs xs.length t).zip (natL p.args))[i]=(b,v):=by
   rw [List.getElem_zip]
   simp only [natL,List.getElem_map]
   have h1':(predN xs xs.length t)[i]=b:=h1
   have h3':p.args[i]=(v:Int):=h3
   rw [h1',h3']
   rfl
  rw [←e]
  exact List.getElem_mem hz
 ·rintro ⟨t,ht,hv⟩
  have ht:=List.mem_range.1 ht
  rw [List.getElem?_eq_getElem ht] at hv
  obtain ⟨p,h2,h3⟩:=List.mem_flatMap.1 (show _∈List.flatMap _ xs[t].phis from hv)
  obtain ⟨i,hi,e⟩:=List.getElem_of_mem h3
  rw [List.getElem_zip] at e
  have hi1:i<(predN xs xs.length t).length:=by simp at hi;omega
  have hi2:i<p.args.length:=by simp [natL] at hi;omega
  refine ⟨t,ht,i,hi1,?_,p,h2,?_⟩
  ·rw [List.getD_eq_getElem?_getD,List.getElem?_eq_getElem hi1]
   exact congrArg Prod.fst e
  ·rw [List.getD_eq_getElem?_getD,List.getElem?_eq_getElem hi2]
   have h4:(natL p.args)[i]'(by simp [natL];omega)=v:=congrArg Prod.snd e
   simp only [natL,List.getElem_map] at h4
   have:=(ho.pha t ht p h2).2 p.args[i] (List.getElem_mem hi2)
   show p.args[i]=(v:Int)
   omega
def barB (xs:List Blk) (b v:Nat):Nat:=match xs[b]? with
 | none=>0
 | some x=>bareM x (edgesM xs b) (v:Int)
def phiB (xs:List Blk) (b v:Nat):Bool:=match xs[b]? with
 | none=>false
 | some x=>hasI (x.phis.map Ph.dst) (v:Int)
inductive Opn (xs:List Blk) (v:Nat):Nat→Prop
 | root:Opn xs v 0
 | step {b t:Nat}:Opn xs v b→phiB xs b v=false→barB xs b v=0→t∈tgN xs b→Opn xs v t
def Bad (xs:List Blk) (v:Nat):Prop:=∃b,Opn xs v b∧phiB xs b v=false∧barB xs b v=1
theorem Opn.lt {xs:List Blk} (h:OkF xs) {v b:Nat} (ho:Opn xs v b):b<xs.length:=by
 induction ho with
 | root=>exact h.n1
 | step _ _ _ ht ih=>exact h.tg _ ih _ ht
theorem bad_iff {V:Nat} {xs:List Blk} (ho:OkL V xs) {I T:Nat→Nat→Nat} {WO:Nat→Nat→Nat} (hI:∀i (h:i<xs.length),I i=inW xs[i] (WO i)) (hT:∀i (h:i<xs.length),T i=dfW xs[i]) (hO:∀b,b<xs.length→∀v,hasN (WO b) v=true↔(b,v)∈phE xs xs.length) {ord:Nat→Prop} (hord:∀b,b<xs.length→ord b) {src:Nat→List Nat} (hsrc:∀b,b<xs.length→src b=tgN xs b) {v:Nat} :
  Sp I T ord src 0 v↔Bad xs v:=by
 have hI':∀b,b<xs.length→(hasN (I b) v=true↔phiB xs b v=false∧barB xs b v=1):=fun b hb=>by
  have hm:=List.getElem_mem hb
  rw [hI b hb,inW_iff (fun y hy=>⟨fun z hz=>(ho.rdi _ hm y hy z hz).1,fun z hz=>(ho.wri _ hm y hy z hz).1⟩) (fun z hz=>(ho.rdt _ hm z hz).1) (fun p hp=>(ho.phd _ hm p hp).1)]
  unfold phiB barB bareM
  rw [List.getElem?_eq_getElem hb]
  simp only
  have e:hasN (WO b) v=hasI (edgesM xs b) (v:Int):=by rw [Bool.eq_iff_iff,hO b hb,hasI_iff,edges_iff ho hb]
  rw [e,←Bool.not_eq_true,hasI_iff]
 have hT':∀b,b<xs.length→phiB xs b v=false→barB xs b v=0→hasN (T b) v=false:=fun b hb h1 h2=>by
  have hm:=List.getElem_mem hb
  rw [hT b hb,←Bool.not_eq_true,dfW_iff (fun y hy z hz=>(ho.wri _ hm y hy z hz).1) (fun p hp=>(ho.phd _ hm p hp).1)]
  unfold phiB at h1
  unfold barB bareM at h2
  rw [List.getElem?_eq_getElem hb] at h1 h2
  simp only at h1 h2
  rintro (h | ⟨y,hy,h⟩)
  ·rw [hasI_iff.2 h] at h1;cases h1
  ·exact bareF_zero _ h2 y hy h
 have hTb:∀b,b<xs.length→hasN (T b) v=false→phiB xs b v=false∧barB xs b v≠2:=fun b hb h=>by
  have hm:=List.getElem_mem hb
  rw [hT b hb,←Bool.not_eq_true,dfW_iff (fun y hy z hz=>(ho.wri _ hm y hy z hz).1) (fun p hp=>(ho.phd _ hm p hp).1)] at h
  unfold phiB barB bareM
  rw [List.getElem?_eq_getElem hb]
  simp only
  refine ⟨?_,bareF_two _ (fun y hy h2=>h (Or.inr ⟨y,hy,h2⟩))⟩
  rw [←Bool.not_eq_true,hasI_iff]
  exact fun h2=>h (Or.inl h2)
 constructor
 ·intro h
  have main:∀b x,Sp I T ord src b x→x=v→Opn xs v b→Bad xs v:=by
   intro b x hs
   induction hs with
   | init h1=>rintro rfl hop;exact ⟨_,hop,(hI' _ (hop.lt ho.okf)).1 h1⟩
   | @take b s x h1 h2 h3 h4 ih =>
    rintro rfl hop
    have hb:=hop.lt ho.okf
    have h5:=hTb b hb h4
    have h6:barB xs b x≤2:=by
     unfold barB
     split
     ·exact Nat.zero_le _
     ·exact bareF_le _
    by_cases e:barB xs b x=1
    ·exact ⟨b,hop,h5.1,e⟩
    ·exact ih rfl (Opn.step hop h5.1 (by have:=h5.2;omega) (by rw [←hsrc b hb];exact h2))
  exact main 0 v h rfl Opn.root
 ·rintro ⟨b,hop,h1,h2⟩
  have main:∀b,Opn xs v b→Sp I T ord src b v→Sp I T ord src 0 v:=by
   intro b hop
   induction hop with
   | root=>exact fun h=>h
   | @step b t h1 h2 h3 h4 ih =>
    intro hs
    have hb:=h1.lt ho.okf
    exact ih (Sp.take (hord b hb) (by rw [hsrc b hb];exact h4) hs (hT' b hb h2 h3))
  exact main b hop (Sp.init ((hI' b (hop.lt ho.okf)).2 ⟨h1,h2⟩))
theorem bad_lt {V:Nat} {xs:List Blk} (ho:OkL V xs) {v:Nat} (h:Bad xs v):v<V:=by
 obtain ⟨b,hop,_,h2⟩:=h
 have hb:=hop.lt ho.okf
 have hm:=List.getElem_mem hb
 unfold barB bareM at h2
 rw [List.getElem?_eq_getElem hb] at h2
 simp only at h2
 rcases bareF_one _ h2 with h3 | ⟨y,hy,h3⟩
 ·rcases Bool.or_eq_true _ _ ▸ h3 with h4 | h4
  ·have:=(ho.rdt _ hm _ (hasI_iff.1 h4)).2;omega
  ·have h5:=(edges_iff ho hb).1 (hasI_iff.1 h4)
   unfold phE phB phT at h5
   obtain ⟨t,ht,hv⟩:=List.mem_flatMap.1 h5
   have ht:=List.mem_range.1 ht
   rw [List.getElem?_eq_getElem ht] at hv
   obtain ⟨p,hp,h6⟩:=List.mem_flatMap.1 (show _∈List.flatMap _ xs[t].phis from hv)
   have h7:=List.of_mem_zip h6
   obtain ⟨z,hz,e⟩:=List.mem_map.1 h7.2
   have:=(ho.pha t ht p hp).2 z hz
   omega
 ·have:=(ho.rdi _ hm y hy _ h3).2;omega
end Go.Proofs.YthgikffcdgpgiaaGreatDoor

namespace Go.Proofs.YthgikffcdgpgiaaGreatDoor
inductive Lbe (xs:List Blk) (v:Nat):Nat→Prop
 | here {b:Nat}:b<xs.length→barB xs b v=1→Lbe xs v b
 | step {b t:Nat}:b<xs.length→barB xs b v=0→t∈tgN xs b→phiB xs t v=false→Lbe xs v t→Lbe xs v b
def Lin (xs:List Blk) (v b:Nat):Prop:=phiB xs b v=false∧Lbe xs v b
def Lou (xs:List Blk) (v b:Nat):Prop:=(v:Int)∈edgesM xs b∨∃t∈tgN xs b,Lin xs v t
theorem barB_le (xs:List Blk) (b v:Nat):barB xs b v≤2:=by
 unfold barB
 split
 ·exact Nat.zero_le _
 ·exact bareF_le _
theorem Lbe.lt {xs:List Blk} {v b:Nat} (h:Lbe xs v b):b<xs.length:=by
 cases h with
 | here h _=>exact h
 | step h _ _ _ _=>exact h
theorem in_iff {V:Nat} {xs:List Blk} (ho:OkL V xs) {I WO:Nat→Nat→Nat} (hI:∀i (h:i<xs.length),I i=inW xs[i] (WO i)) (hO:∀b,b<xs.length→∀v,hasN (WO b) v=true↔(b,v)∈phE xs xs.length) {v b:Nat} (hb:b<xs.length):hasN (I b) v=true↔phiB xs b v=false∧barB xs b v=1:=by
 have hm:=List.getElem_mem hb
 rw [hI b hb,inW_iff (fun y hy=>⟨fun z hz=>(ho.rdi _ hm y hy z hz).1,fun z hz=>(ho.wri _ hm y hy z hz).1⟩) (fun z hz=>(ho.rdt _ hm z hz).1) (fun p hp=>(ho.phd _ hm p hp).1)]
 unfold phiB barB bareM
 rw [List.getElem?_eq_getElem hb]
 simp only
 have e:hasN (WO b) v=hasI (edgesM xs b) (v:Int):=by rw [Bool.eq_iff_iff,hO b hb,hasI_iff,edges_iff ho hb]
 rw [e,←Bool.not_eq_true,hasI_iff]
theorem df_zero {V:Nat} {xs:List Blk} (ho:OkL V xs) {T:Nat→Nat→Nat} (hT:∀i (h:i<xs.length),T i=dfW xs[i]) {v b:Nat} (hb:b<xs.length) (h1:phiB xs b v=false) (h2:barB xs b v=0):hasN (T b) v=false:=by
 have hm:=List.getElem_mem hb
 rw [hT b hb,←Bool.not_eq_true,dfW_iff (fun y hy z hz=>(ho.wri _ hm y hy z hz).1) (fun p hp=>(ho.phd _ hm p hp).1)]
 unfold phiB at h1
 unfold barB bareM at h2
 rw [List.getElem?_eq_getElem hb] at h1 h2
 simp only at h1 h2
 rintro (h | ⟨y,hy,h⟩)
 ·rw [hasI_iff.2 h] at h1;cases h1
 ·exact bareF_zero _ h2 y hy h
theorem df_not {V:Nat} {xs:List Blk} (ho:OkL V xs) {T:Nat→Nat→Nat} (hT:∀i (h:i<xs.length),T i=dfW xs[i]) {v b:Nat} (hb:b<xs.length) (h:hasN (T b) v=false):phiB xs b v=false∧barB xs b v≠2:=by
 have hm:=List.getElem_mem hb
 rw [hT b hb,←Bool.not_eq_true,dfW_iff (fun y hy z hz=>(ho.wri _ hm y hy z hz).1) (fun p hp=>(ho.phd _ hm p hp).1)] at h
 unfold phiB barB bareM
 rw [List.getElem?_eq_getElem hb]
 simp only
 refine ⟨?_,bareF_two _ (fun y hy h2=>h (Or.inr ⟨y,hy,h2⟩))⟩
 rw [←Bool.not_eq_true,hasI_iff]
 exact fun h2=>h (Or.inl h2)
theorem sp_lin {V:Nat} {xs:List Blk} (ho:OkL V xs) {I T WO:Nat→Nat→Nat} (hI:∀i (h:i<xs.length),I i=inW xs[i] (WO i)) (hT:∀i (h:i<xs.length),T i=dfW xs[i]) (hO:∀b,b<xs.length→∀v,hasN (WO b) v=true↔(b,v)∈phE xs xs.length) {ord:Nat→Prop} (hord:∀b,b<xs.length→ord b) {v b:Nat} (hb:b<xs.length) :
  Sp I T ord (tgN xs) b v↔Lin xs v b:=by
 constructor
 ·intro h
  induction h with
  | init h1 =>
   have h2:=(in_iff ho hI hO hb).1 h1
   exact ⟨h2.1,Lbe.here hb h2.2⟩
  | @take b s x h1 h2 h3 h4 ih =>
   have h5:=df_not ho hT hb h4
   have h6:=barB_le xs b x
   have hs:=ho.okf.tg _ hb _ h2
   by_cases e:barB xs b x=1
   ·exact ⟨h5.1,Lbe.here hb e⟩
   ·have hl:=ih hs
    exact ⟨h5.1,Lbe.step hb (by have:=h5.2;omega) h2 hl.1 hl.2⟩
 ·rintro ⟨h1,h2⟩
  induction h2 with
  | here h3 h4=>exact Sp.init ((in_iff ho hI hO h3).2 ⟨h1,h4⟩)
  | @step b t h3 h4 h5 h6 h7 ih=>exact Sp.take (hord _ h3) h5 (ih (ho.okf.tg _ h3 _ h5) h6) (df_zero ho hT h3 h1 h4)
theorem edges_lt {V:Nat} {xs:List Blk} (ho:OkL V xs) {b v:Nat} (hb:b<xs.length) (h:(v:Int)∈edgesM xs b):v<V:=by
 have h5:=(edges_iff ho hb).1 h
 unfold phE phB phT at h5
 obtain ⟨t,ht,hv⟩:=List.mem_flatMap.1 h5
 have ht:=List.mem_range.1 ht
 rw [List.getElem?_eq_getElem ht] at hv
 obtain ⟨p,hp,h6⟩:=List.mem_flatMap.1 (show _∈List.flatMap _ xs[t].phis from hv)
 have h7:=List.of_mem_zip h6
 obtain ⟨z,hz,e⟩:=List.mem_map.1 h7.2
 have:=(ho.pha t ht p hp).2 z hz
 omega
theorem bar_lt {V:Nat} {xs:List Blk} (ho:OkL V xs) {b v:Nat} (hb:b<xs.length) (h2:barB xs b v=1):v<V:=by
 have hm:=List.getElem_mem hb
 unfold barB bareM at h2
 rw [List.getElem?_eq_getElem hb] at h2
 simp only at h2
 rcases bareF_one _ h2 with h3 | ⟨y,hy,h3⟩
 ·rcases Bool.or_eq_true _ _ ▸ h3 with h4 | h4
  ·have:=(ho.rdt _ hm _ (hasI_iff.1 h4)).2;omega
  ·exact edges_lt ho hb (hasI_iff.1 h4)
 ·have:=(ho.rdi _ hm y hy _ h3).2;omega
theorem Lbe.val {V:Nat} {xs:List Blk} (ho:OkL V xs) {v b:Nat} (h:Lbe xs v b):v<V:=by
 induction h with
 | here h1 h2=>exact bar_lt ho h1 h2
 | step _ _ _ _ _ ih=>exact ih
theorem Lou.val {V:Nat} {xs:List Blk} (ho:OkL V xs) {v b:Nat} (hb:b<xs.length) (h:Lou xs v b):v<V:=by
 rcases h with h | ⟨t,_,h⟩
 ·exact edges_lt ho hb h
 ·exact h.2.val ho
theorem mark_done {xs:List Blk} {v:Nat} {lv:Nat→Bool} (h1:∀b,b<xs.length→lv b=true→Lbe xs v b) (h2:∀b,b<xs.length→barB xs b v=1→lv b=true) (h3:∀b,b<xs.length→barB xs b v=0→∀t∈tgN xs b,lv t=true→phiB xs t v=false→lv b=true) {b:Nat} (hb:b<xs.length):lv b=true↔Lbe xs v b:=by
 refine ⟨h1 b hb,fun h=>?_⟩
 induction h with
 | here h4 h5=>exact h2 _ h4 h5
 | @step b t h4 h5 h6 h7 h8 ih=>exact h3 b h4 h5 t h6 (ih h8.lt) h7
end Go.Proofs.YthgikffcdgpgiaaGreatDoor

namespace Go.Proofs.YthgikffcdgpgiaaGreatDoor
def nowP (x:Blk) (v:Nat) (q:Bool) (j:Nat):Bool:=decide (bareF (v:Int) (hasI (rdT x.term) (v:Int)||q) (x.instrs.drop j)=1)
theorem now_end (x:Blk) (v:Nat) (q:Bool) {j:Nat} (hj:x.instrs.length≤j):nowP x v q j=(hasI (rdT x.term) (v:Int)||q):=by
 unfold nowP
 rw [List.drop_eq_nil_of_le hj]
 unfold bareF
 cases (hasI (rdT x.term) (v:Int)||q)<;>simp
theorem now_step (x:Blk) (v:Nat) (q:Bool) {j:Nat} (hj:j<x.instrs.length):nowP x v q j=(hasI (rdI x.instrs[j]) (v:Int)||(nowP x v q (j+1) && !decide (defI x.instrs[j]=(v:Int)))):=by
 unfold nowP
 rw [List.drop_eq_getElem_cons hj]
 generalize x.instrs.drop (j+1)=ys
 show decide ((if hasI (rdI x.instrs[j]) (v:Int) then 1 else if defI x.instrs[j]=(v:Int) then 2 else bareF (v:Int) _ ys)=1)=_
 by_cases e1:hasI (rdI x.instrs[j]) (v:Int)=true
 ·rw [if_pos e1,e1];simp
 ·rw [if_neg e1]
  have e1':hasI (rdI x.instrs[j]) (v:Int)=false:=by simpa using e1
  rw [e1']
  by_cases e2:defI x.instrs[j]=(v:Int)
  ·rw [if_pos e2];simp [e2]
  ·rw [if_neg e2];simp [e2]
def PsP (xs:List Blk) (x:Blk) (b i v:Nat) (q:Bool):Bool:=match i with
 | 0=>nowP x v q 0||phiB xs b v
 | j+1=>nowP x v q (j+1)||(match x.instrs[j]? with
  | none=>false
  | some y=>decide (defI y=(v:Int)))
theorem bareF_mono {v:Int} {f f':Bool} (h:f=true→f'=true):∀(ys:List Ins),bareF v f ys=1→bareF v f' ys=1
 | [],h1=>by
  unfold bareF at h1 ⊢
  cases hf:f with
  | true=>rw [h hf];rfl
  | false=>rw [hf] at h1;cases h1
 | y::ys,h1=>by
  show (if hasI (rdI y) v then 1 else if defI y=v then 2 else bareF v f' ys)=1
  have h2:(if hasI (rdI y) v then 1 else if defI y=v then 2 else bareF v f ys)=1:=h1
  by_cases e1:hasI (rdI y) v=true
  ·rw [if_pos e1]
  ·rw [if_neg e1] at h2 ⊢
   by_cases e2:defI y=v
   ·rw [if_pos e2] at h2;cases h2
   ·rw [if_neg e2] at h2 ⊢
    exact bareF_mono h ys h2
theorem bareF_two' {v:Int} {f f':Bool}:∀(ys:List Ins),bareF v f ys=2→bareF v f' ys=2
 | [],h1=>by
  unfold bareF at h1
  cases f<;>cases h1
 | y::ys,h1=>by
  show (if hasI (rdI y) v then 1 else if defI y=v then 2 else bareF v f' ys)=2
  have h2:(if hasI (rdI y) v then 1 else if defI y=v then 2 else bareF v f ys)=2:=h1
  by_cases e1:hasI (rdI y) v=true
  ·rw [if_pos e1] at h2;cases h2
  ·rw [if_neg e1] at h2 ⊢
   by_cases e2:defI y=v
   ·rw [if_pos e2]
   ·rw [if_neg e2] at h2 ⊢
    exact bareF_two' ys h2
theorem bareF_fin {v:Int} {f f':Bool}:∀(ys:List Ins),bareF v f ys=0→f=false∧(bareF v f' ys=1↔f'=true)
 | [],h1=>by
  unfold bareF at h1 ⊢
  cases f
  ·exact ⟨rfl,by cases f'<;>simp⟩
  ·cases h1
 | y::ys,h1=>by
  have h2:(if hasI (rdI y) v then 1 else if defI y=v then 2 else bareF v f ys)=0:=h1
  by_cases e1:hasI (rdI y) v=true
  ·rw [if_pos e1] at h2;cases h2
  ·rw [if_neg e1] at h2
   by_cases e2:defI y=v
   ·rw [if_pos e2] at h2;cases h2
   ·rw [if_neg e2] at h2
    have ih:=bareF_fin (f':=f') ys h2
    refine ⟨ih.1,?_⟩
    show (if hasI (rdI y) v then 1 else if defI y=v then 2 else bareF v f' ys)=1↔_
    rw [if_neg e1,if_neg e2]
    exact ih.2
theorem now_lbe {xs:List Blk} {b v:Nat} (hb:b<xs.length) {q:Bool} (hq:q=true↔Lou xs v b):nowP xs[b] v q 0=true↔Lbe xs v b:=by
 unfold nowP
 rw [List.drop_zero,decide_eq_true_eq]
 have hbb:barB xs b v=bareF (v:Int) (hasI (rdT xs[b].term) (v:Int)||hasI (edgesM xs b) (v:Int)) xs[b].instrs:=by unfold barB bareM;rw [List.getElem?_eq_getElem hb]
 have hle:=barB_le xs b v
 have hE:hasI (edgesM xs b) (v:Int)=true→q=true:=fun h=>hq.2 (Or.inl (hasI_iff.1 h))
 have hcs:barB xs b v=0∨barB xs b v=1∨barB xs b v=2:=by omega
 rcases hcs with h0 | h1 | h2
 ·have h0':=h0
  rw [hbb] at h0'
  have hf:=bareF_fin (f':=hasI (rdT xs[b].term) (v:Int)||q) xs[b].instrs h0'
  rw [hf.2]
  have hr:hasI (rdT xs[b].term) (v:Int)=false∧hasI (edgesM xs b) (v:Int)=false:=by simpa using hf.1
  rw [hr.1,Bool.false_or,hq]
  constructor
  ·rintro (h | ⟨t,ht,h⟩)
   ·rw [hasI_iff.2 h] at hr;cases hr.2
   ·exact Lbe.step hb h0 ht h.1 h.2
  ·intro h
   cases h with
   | here _ h3=>rw [h0] at h3;cases h3
   | @step _ t _ _ h3 h4 h5=>exact Or.inr ⟨t,h3,h4,h5⟩
 ·have h1':=h1
  rw [hbb] at h1'
  refine ⟨fun _=>Lbe.here hb h1,fun _=>bareF_mono (fun h=>?_) _ h1'⟩
  rcases Bool.or_eq_true _ _ ▸ h with h3 | h3
  ·rw [h3];rfl
  ·rw [hE h3];simp
 ·have h2':=h2
  rw [hbb] at h2'
  rw [bareF_two' (f':=hasI (rdT xs[b].term) (v:Int)||q) _ h2']
  constructor
  ·intro h;cases h
  ·intro h
   cases h with
   | here _ h3=>rw [h2] at h3;cases h3
   | step _ h3 _ _ _=>rw [h2] at h3;cases h3
end Go.Proofs.YthgikffcdgpgiaaGreatDoor

namespace Go.Proofs.YthgikffcdgpgiaaGreatDoor
open Go.RowKit Go.Shelf
def sdA (W:Nat→Nat) (q:Nat × List Int × List Int):Nat→Nat:=addsN W (natL q.2.2)
def sdB (W:Nat→Nat) (q:Nat × List Int × List Int):Nat→Nat:=addsN (delsN (sdA W q) (natL q.2.2)) (natL q.2.1)
def sdE (m:Nat) (W:Nat→Nat) (q:Nat × List Int × List Int):List (Nat × (Nat→Nat)):=if q.1≤m then [(q.1,sdA W q)] else []
def sdL (m:Nat):(Nat→Nat)→List (Nat × List Int × List Int)→List (Nat × (Nat→Nat))
 | _,[]=>[]
 | W,q::l=>sdE m W q++sdL m (sdB W q) l
theorem sdL_snoc (m:Nat) (q:Nat × List Int × List Int):∀(l:List (Nat × List Int × List Int)) (W:Nat→Nat),sdL m W (l++[q])=sdL m W l++sdE m (l.foldl sdB W) q
 | [],W=>by simp [sdL]
 | p::l,W=>by
  show sdE m W p++sdL m (sdB W p) (l++[q])=(sdE m W p++sdL m (sdB W p) l)++sdE m (l.foldl sdB (sdB W p)) q
  rw [sdL_snoc m q l,List.append_assoc]
theorem sdB_wd {W:Nat→Nat} (h:WdOk W) (q:Nat × List Int × List Int):WdOk (sdA W q)∧WdOk (sdB W q):=by
 have h1:WdOk (sdA W q):=adds_wd _ h
 exact ⟨h1,adds_wd _ (dels_wd _ h1)⟩
theorem foldB_wd (l:List (Nat × List Int × List Int)) {W:Nat→Nat} (h:WdOk W):WdOk (l.foldl sdB W):=by
 induction l generalizing W with
 | nil=>exact h
 | cons q l ih=>exact ih (sdB_wd h q).2
theorem sdL_len (m:Nat):∀(l:List (Nat × List Int × List Int)) (W:Nat→Nat),(sdL m W l).length≤l.length
 | [],_=>Nat.le_refl _
 | q::l,W=>by
  have:=sdL_len m l (sdB W q)
  have h:(sdE m W q).length≤1:=by unfold sdE;split<;>simp
  show (sdE m W q++sdL m (sdB W q) l).length≤l.length+1
  rw [List.length_append]
  omega
structure Sd where
 i:Nat
 C:Nat
 W:Nat→Nat
def Sd.dat (p:Sd):Nat × (Nat→Nat):=(p.i,p.W)
def sdEnc (Kw z:Nat) (p:Sd):Array Value:=#[.int .i64 (p.i:Int),.agg #[.slice (some ⟨z,0,none⟩) Kw p.C]]
def sdPx (Kw z:Nat) (p:Sd) (V:World):Prop:=WsAt V z Kw p.C p.W∧WdOk p.W
structure SdI (W:World) (n₁ l Bl Bx gl Kw C1 m:Nat) (ia:Option Addr) (ic:Nat) (W0:Nat→Nat) (J:Nat→List Sd→World→Prop) (pre:List Pl) (V:World):Prop where
 js:∃ss:List Sd,ss.map Sd.dat=sdL m W0 (pre.map Pl.dat)∧J gl ss V
 y:V.cell? ⟨W.heap.size,0,none⟩=some (.func (.yield l) #[] #[])
 lv:V.cell? ⟨Bl,0,none⟩=some (.slice (some ⟨gl,0,none⟩) Kw C1)
 ws:WsAt V gl Kw C1 ((pre.map Pl.dat).foldl sdB W0)
 bx:V.cell? ⟨Bx,1,none⟩=some (.slice ia m ic)
 sz:n₁≤V.heap.size
theorem SdI.own {W:World} {n₁ l Bl Bx gl Kw C1 m:Nat} {ia:Option Addr} {ic:Nat} {W0:Nat→Nat} {J:Nat→List Sd→World→Prop} (hJ:∀z,OwnFrom W.heap.size (J z)) (hW:W.heap.size<n₁) (hl:Bl<n₁) (hx:Bx<n₁) (hg:gl<n₁):OwnFrom n₁ (SdI W n₁ l Bl Bx gl Kw C1 m ia ic W0 J):=fun pre A V row h k q=>by
 have hz:=h.sz
 have hbl:∀b,b<n₁→V.heap[b]?=A.heap[b]?:=fun b hb=>k.block b (by omega) (fun e=>by have:=(q b e.symm).1;omega)
 obtain ⟨ss,h1,h2⟩:=h.js
 exact ⟨⟨ss,h1,hJ gl ss A V row h2 k (fun r e=>⟨by have:=(q r e).1;omega,(q r e).2⟩)⟩,(cell_of (hbl _ hW)).trans h.y,(cell_of (hbl _ hl)).trans h.lv,h.ws.of_block (hbl _ hg),(cell_of (hbl _ hx)).trans h.bx,Nat.le_trans hz k.size⟩
end Go.Proofs.YthgikffcdgpgiaaGreatDoor

namespace Go.Proofs.YthgikffcdgpgiaaGreatDoor
open Go.RowKit
variable {F : Fence} {n : Nat} {P : Program} {α : Type}
theorem RecAt.keepsF {W V:World} {D:Nat} {r:Loop} (h:RecAt W D r) (k:KeepsFrom D W V):RecAt V D r:=⟨k.same _ _ (by omega) h.1 rfl,k.same _ _ (Nat.le_refl _) h.2 rfl⟩
theorem keepsFrom_mono {A V:World} {B B':Nat} (h:KeepsFrom B A V) (hB:B≤B'):KeepsFrom B' A V:=⟨h.size,fun k o h1 h2 h3=>h.same k o (by omega) h2 h3⟩
end Go.Proofs.YthgikffcdgpgiaaGreatDoor

namespace Go.Proofs.YthgikffcdgpgiaaGreatDoor
open Go.RowKit
def stF (x:Blk) (W0:Nat→Nat):Nat→Nat:=sdB W0 (x.instrs.length+1,rdT x.term,[])
def stB (x:Blk) (W0:Nat→Nat) (k:Nat):Nat→Nat:=((bwF x.instrs.length k).map (plI x)).foldl sdB (stF x W0)
theorem has_sdA (W:Nat→Nat) (q:Nat × List Int × List Int) (v:Nat):hasN (sdA W q) v=(decide (v∈natL q.2.2)||hasN W v):=by
 unfold sdA
 rw [has_adds]
theorem has_sdB (W:Nat→Nat) (q:Nat × List Int × List Int) (v:Nat):hasN (sdB W q) v=(decide (v∈natL q.2.1)||(decide (v ∉ natL q.2.2)&&hasN W v)):=by
 unfold sdB
 rw [has_adds,has_dels,has_sdA]
 by_cases h:v∈natL q.2.2<;>simp [h]
theorem stB_step (x:Blk) (W0:Nat→Nat) {k:Nat} (hk:k<x.instrs.length):stB x W0 k=sdB (stB x W0 (k+1)) (plI x ⟨k,hk⟩):=by
 unfold stB
 rw [bwF_step hk,List.map_append,List.foldl_append]
 rfl
theorem has_stB {x:Blk} {W0:Nat→Nat} {v:Nat} {q:Bool} (hq:hasN W0 v=q) (hy:∀y∈x.instrs,(∀v∈rdI y,0≤v)∧∀v∈writesI y,0≤v) (ht:∀v∈rdT x.term,0≤v):∀d k,k+d=x.instrs.length→hasN (stB x W0 k) v=nowP x v q k
 | 0,k,hk=>by
  have hk:k=x.instrs.length:=by omega
  subst hk
  rw [now_end x v q (Nat.le_refl _)]
  unfold stB
  rw [bwF_start]
  show hasN (sdB W0 (x.instrs.length+1,rdT x.term,[])) v=_
  rw [has_sdB,hq,Bool.eq_iff_iff,Bool.or_eq_true,Bool.or_eq_true,decide_eq_true_eq,mem_natL ht,hasI_iff]
  simp [natL]
 | d+1,k,hk=>by
  have hlt:k<x.instrs.length:=by omega
  have ih:=has_stB hq hy ht d (k+1) (by omega)
  have h0:=hy x.instrs[k] (List.getElem_mem hlt)
  rw [stB_step x W0 hlt,has_sdB,ih,now_step x v q hlt]
  show (decide (v∈natL (rdI x.instrs[k]))||(decide (v ∉ natL (writesI x.instrs[k]))&&nowP x v q (k+1)))=_
  have e1:decide (v∈natL (rdI x.instrs[k]))=hasI (rdI x.instrs[k]) (v:Int):=by rw [Bool.eq_iff_iff,decide_eq_true_eq,mem_natL h0.1,hasI_iff]
  have e2:decide (v ∉ natL (writesI x.instrs[k]))=!decide (defI x.instrs[k]=(v:Int)):=by
   rw [Bool.eq_iff_iff]
   simp only [decide_eq_true_eq,Bool.not_eq_true',decide_eq_false_iff_not,mem_natL h0.2,def_writes]
  rw [e1,e2,Bool.and_comm]
theorem sdL_mid (x:Blk) (W0:Nat→Nat):∀d k,k+d=x.instrs.length→sdL x.instrs.length (stF x W0) ((bwF x.instrs.length k).map (plI x))=(bwF x.instrs.length k).map fun j:Fin x.instrs.length=>((j:Nat)+1,sdA (stB x W0 ((j:Nat)+1)) (plI x j))
 | 0,k,hk=>by
  have hk:k=x.instrs.length:=by omega
  subst hk
  rw [bwF_start]
  rfl
 | d+1,k,hk=>by
  have hlt:k<x.instrs.length:=by omega
  have ih:=sdL_mid x W0 d (k+1) (by omega)
  rw [bwF_step hlt,List.map_append,List.map_append,List.map_cons,List.map_nil,sdL_snoc,ih]
  congr 1
  unfold sdE
  rw [if_pos (show (plI x ⟨k,hlt⟩).1≤x.instrs.length from hlt)]
  rfl
theorem sdL_all (x:Blk) (W0:Nat→Nat):sdL x.instrs.length W0 (plL x)=((bwF x.instrs.length 0).map fun j:Fin x.instrs.length=>((j:Nat)+1,sdA (stB x W0 ((j:Nat)+1)) (plI x j)))++[(0,sdA (stB x W0 0) (0,[],x.phis.map Ph.dst))]:=by
 unfold plL
 show sdE x.instrs.length W0 (x.instrs.length+1,rdT x.term,[])++sdL x.instrs.length (stF x W0) ((bwF x.instrs.length 0).map (plI x)++[(0,[],x.phis.map Ph.dst)])=_
 rw [sdL_snoc,sdL_mid x W0 x.instrs.length 0 (by omega)]
 have e1:sdE x.instrs.length W0 (x.instrs.length+1,rdT x.term,[])=[]:=by
  unfold sdE
  rw [if_neg (by simp)]
 have e2:sdE x.instrs.length (((bwF x.instrs.length 0).map (plI x)).foldl sdB (stF x W0)) (0,[],x.phis.map Ph.dst)=[(0,sdA (stB x W0 0) (0,[],x.phis.map Ph.dst))]:=by
  unfold sdE
  rw [if_pos (Nat.zero_le _)]
  rfl
 rw [e1,e2]
 rfl
theorem sd_has {V:Nat} {xs:List Blk} (ho:OkL V xs) {b v:Nat} (hb:b<xs.length) {W0:Nat→Nat} {q:Bool} (hq:hasN W0 v=q) {i:Nat} {W:Nat→Nat} (h:(i,W)∈sdL xs[b].instrs.length W0 (plL xs[b])):i≤xs[b].instrs.length∧hasN W v=PsP xs xs[b] b i v q:=by
 have hm:=List.getElem_mem hb
 have hy:∀y∈xs[b].instrs,(∀v∈rdI y,0≤v)∧∀v∈writesI y,0≤v:=fun y hy=>⟨fun z hz=>(ho.rdi _ hm y hy z hz).1,fun z hz=>(ho.wri _ hm y hy z hz).1⟩
 have ht:∀v∈rdT xs[b].term,0≤v:=fun z hz=>(ho.rdt _ hm z hz).1
 rw [sdL_all] at h
 rcases List.mem_append.1 h with h | h
 ·obtain ⟨j,_,e⟩:=List.mem_map.1 h
  have e1:(j:Nat)+1=i:=congrArg Prod.fst e
  have e2:sdA (stB xs[b] W0 ((j:Nat)+1)) (plI xs[b] j)=W:=congrArg Prod.snd e
  subst e1 e2
  have hj:=j.isLt
  refine ⟨hj,?_⟩
  rw [has_sdA,has_stB hq hy ht (xs[b].instrs.length-(j+1)) (j+1) (by omega)]
  show _=(nowP xs[b] v q ((j:Nat)+1)||(match xs[b].instrs[(j:Nat)]? with
   | none=>false
   | some y=>decide (defI y=(v:Int))))
  rw [List.getElem?_eq_getElem hj,Bool.or_comm]
  congr 1
  rw [Bool.eq_iff_iff,decide_eq_true_eq,decide_eq_true_eq,def_writes]
  exact mem_natL (hy _ (List.getElem_mem hj)).2
 ·have e:=List.mem_singleton.1 h
  have e1:i=0:=congrArg Prod.fst e
  have e2:W=sdA (stB xs[b] W0 0) (0,[],xs[b].phis.map Ph.dst):=congrArg Prod.snd e
  subst e1 e2
  refine ⟨Nat.zero_le _,?_⟩
  rw [has_sdA,has_stB hq hy ht xs[b].instrs.length 0 (by omega)]
  show _=(nowP xs[b] v q 0||phiB xs b v)
  rw [Bool.or_comm]
  congr 1
  unfold phiB
  rw [List.getElem?_eq_getElem hb,Bool.eq_iff_iff,decide_eq_true_eq]
  show v∈natL (xs[b].phis.map Ph.dst)↔hasI (xs[b].phis.map Ph.dst) (v:Int)=true
  rw [hasI_iff]
  exact mem_natL (fun z hz=>by obtain ⟨p,hp,rfl⟩:=List.mem_map.1 hz;exact (ho.phd _ hm p hp).1)
end Go.Proofs.YthgikffcdgpgiaaGreatDoor

namespace Go.Proofs.YthgikffcdgpgiaaGreatDoor
open Go.RowKit
theorem now_lt {V:Nat} {xs:List Blk} (ho:OkL V xs) {b v:Nat} (hb:b<xs.length) {q:Bool} (hq:q=true→v<V) {j:Nat} (h:nowP xs[b] v q j=true):v<V:=by
 have hm:=List.getElem_mem hb
 unfold nowP at h
 rcases bareF_one _ (of_decide_eq_true h) with h3 | ⟨y,hy,h3⟩
 ·rcases Bool.or_eq_true _ _ ▸ h3 with h4 | h4
  ·have:=(ho.rdt _ hm _ (hasI_iff.1 h4)).2;omega
  ·exact hq h4
 ·have:=(ho.rdi _ hm y (List.mem_of_mem_drop hy) _ h3).2;omega
theorem ps_lt {V:Nat} {xs:List Blk} (ho:OkL V xs) {b v:Nat} (hb:b<xs.length) {q:Bool} (hq:q=true→v<V) {i:Nat} (h:PsP xs xs[b] b i v q=true):v<V:=by
 have hm:=List.getElem_mem hb
 cases i with
 | zero =>
  rcases Bool.or_eq_true _ _ ▸ (show (nowP xs[b] v q 0||phiB xs b v)=true from h) with h1 | h1
  ·exact now_lt ho hb hq h1
  ·unfold phiB at h1
   rw [List.getElem?_eq_getElem hb] at h1
   obtain ⟨p,hp,e⟩:=List.mem_map.1 (hasI_iff.1 h1)
   have:=(ho.phd _ hm p hp).2
   omega
 | succ j =>
  have h':(nowP xs[b] v q (j+1)||(match xs[b].instrs[j]? with
   | none=>false
   | some y=>decide (defI y=(v:Int))))=true:=h
  rcases Bool.or_eq_true _ _ ▸ h' with h1 | h1
  ·exact now_lt ho hb hq h1
  ·cases hj:xs[b].instrs[j]? with
   | none=>rw [hj] at h1;cases h1
   | some y =>
    rw [hj] at h1
    have h2:=def_writes.1 (of_decide_eq_true h1)
    have:=(ho.wri _ hm y (List.mem_of_getElem? hj) _ h2).2
    omega
open Classical in
noncomputable def ptP (xs:List Blk) (x:Blk) (V b i:Nat):List Nat:=(List.range V).filter fun v=>PsP xs x b i v (decide (Lou xs v b))
open Classical in
theorem ls_pt {V:Nat} {xs:List Blk} (ho:OkL V xs) {b:Nat} (hb:b<xs.length) {W0:Nat→Nat} {p:Nat} (hV:V≤p) (hq:∀v,v<p→(hasN W0 v=true↔Lou xs v b)) {i:Nat} {W:Nat→Nat} (h:(i,W)∈sdL xs[b].instrs.length W0 (plL xs[b])):lsN W p=ptP xs xs[b] V b i:=by
 have hs:∀v,v<p→hasN W v=PsP xs xs[b] b i v (decide (Lou xs v b)):=fun v hv=>(sd_has ho hb (by rw [Bool.eq_iff_iff,hq v hv,decide_eq_true_eq]) h).2
 rw [ls_skip hV (fun v h1 h2=>by
  rw [←Bool.not_eq_true,hs v h2]
  intro h3
  have:=ps_lt ho hb (fun h4=>(of_decide_eq_true h4:Lou xs v b).val ho hb) h3
  omega)]
 unfold lsN ptP
 apply List.filter_congr
 intro v hv
 have:=List.mem_range.1 hv
 exact hs v (by omega)
end Go.Proofs.YthgikffcdgpgiaaGreatDoor

namespace Go.Proofs.YthgikffcdgpgiaaGreatDoor
open Go.RowKit Go.Shelf
attribute [local go_sem] Oper.semAt_some
set_option maxHeartbeats 1000000 in
theorem side_in (n:Nat) (v0 v1 v2 v3 v4 v5:Value) (g Kw C:Nat) (w:World) :
  CallsIn Fence.wide n Tryz.prog 60 #[.agg #[v0,v1,v2,v3,v4,v5],.agg #[.slice (some ⟨g,0,none⟩) Kw C]] w fun e w'=>e=.returned (.func (.func 109) #[] #[.pointer (some ⟨w.heap.size+1,0,none⟩),.pointer (some ⟨w.heap.size,0,none⟩)])∧w'=(w.alloc (.cells #[v0,v1,v2,v3,v4,v5] 57)).alloc (.cells #[.slice (some ⟨g,0,none⟩) Kw C] 75):=by
 refine callsIn_of_wp Tryz.func60 rfl trivial ?_ rfl
 simp only [Tryz.ntmps60,List.size_toArray,List.length_cons,List.length_nil,Nat.reduceAdd,Nat.reduceSub,Array.replicate_succ,Array.replicate_zero,List.push_toArray,List.append_toArray,List.nil_append,List.cons_append]
 gi_wp2
 go_ret
 exact ⟨rfl,rfl⟩
end Go.Proofs.YthgikffcdgpgiaaGreatDoor

namespace Go.Proofs.YthgikffcdgpgiaaGreatDoor
open Go.RowKit
variable {F : Fence} {n : Nat} {P : Program} {α : Type}
def SeqS (F:Fence) (n:Nat) (P:Program) (g:Nat) (lb:Array Value) (encs:Nat→α→Array Value) (Px:Nat→α→World→Prop) (Kp:World→World→Prop) (S Sp:List α→Prop) (N:Nat) (turn vary:Prop) (w:World):Prop :=
 ∀(l:Nat) (J:Nat→List α→World→Prop) (Jx:List α→World→Prop) (W:World),Below w.heap.size w W→l<W.heap.size→(∀z,OwnFrom W.heap.size (J z))→OwnFrom W.heap.size Jx→(turn→∀z s V V',W.heap.size≤z→J z s V→V.grownBy V' (some z)→J z s V') →
  (vary→(∀z z' s V V',W.heap.size≤z'→J z s V→Below W.heap.size V V'→J z' s V')∧∀s V V',Jx s V→Below W.heap.size V V'→Jx s V') →
  (∀z pre x V,W.heap.size≤z→J z pre V→Px z x V→pre.length<N→YieldAt F (n-1) P l (encs z x) V fun e V'=>(e=.returned (.bool true)∧J z (pre++[x]) V'∧Kp V V'∧KeepsFrom W.heap.size V V')∨(e=.returned (.bool false)∧Jx (pre++[x]) V'∧Kp V V'∧KeepsFrom W.heap.size V V')) →
  (∀z V,W.heap.size≤z→z<V.heap.size→Below W.heap.size W V→J z [] V)→CallsIn F n P g (#[.func (.yield l) #[] #[]]++lb) W fun e V=>(∃v,e=.returned v)∧((∃z xs,W.heap.size≤z∧S xs∧J z xs V)∨∃pre,Sp pre∧Jx pre V)
def ownPostS {α:Type} (B:Nat) (Kp:World→World→Prop) (I:List α→World→Prop) (Ix:Code→List α→World→Prop) (xs:List α) (W:World):Exit→Act→World→Prop
 | .normal,_,W'=>KeepsFrom B W W'∧Kp W W'∧I xs W'
 | .ret,_,W'=>KeepsFrom B W W'∧Kp W W'∧Ix .ret xs W'
 | .exit id,_,W'=>KeepsFrom B W W'∧Kp W W'∧Ix (.exit id) xs W'
 | .goto t,_,W'=>KeepsFrom B W W'∧Kp W W'∧Ix (.goto t) xs W'
 | .panic _,_,_=>False
 | .outgrown,_,_=>False
theorem rangeS {g:Operand} {ps:Array Tmp} {asg bo:Code} {Q:Exit→Act→World→Prop} {a:Act} {w:World} (hro:F.round=none) (h1:1≤n) {gf:Nat} {lb:Array Value} (hg:a.eval g=.func (.func gf) #[] lb) (hFg:F.fn gf) (eg:∀args w,(callFunc gf args).run P w=.ok (.enter gf args) w)
  {encs:Nat→α→Array Value} {Px:Nat→α→World→Prop} {Kp:World→World→Prop} {S Sp:List α→Prop} {N:Nat} {turn vary:Prop} {w0:World} (hseq:SeqS F (n-1) P gf lb encs Px Kp S Sp N turn vary w0) (hPx:∀z,OwnFrom w.heap.size (Px z)) (hKt:∀{A B C:World},Kp A B→Kp B C→Kp A C) (hKb:∀(W:World) (l:Nat) (o o':Obj),w.heap.size≤l→W.heap[l]?=some o→o.isCells=false→Kp W (W.putObj l o')) (hb0:Below w0.heap.size w0 w) (hps:∀z x,(encs z x).size=ps.size)
  (I:Nat→List α→World→Prop) (Ix:Code→List α→World→Prop) (hI:∀z,OwnFrom w.heap.size (I z)) (hIx:∀c,OwnFrom w.heap.size (Ix c)) (hIz:turn→∀z s V V',w.heap.size≤z→I z s V→V.grownBy V' (some z)→I z s V') (hvar:vary→(∀z z' s V V',w.heap.size≤z'→I z s V→Below (w.heap.size+2) V V'→I z' s V')∧∀c s V V',Ix c s V→Below (w.heap.size+2) V V'→Ix c s V') (h0:∀z V,w.heap.size≤z→z<V.heap.size→Below w.heap.size w V→I z [] V) (Ax:Nat→α→Act→World→Prop) (hAx:∀z x a',OwnFrom w.heap.size (fun (_:Unit) W=>Ax z x a' W))
  (hassign:∀(l z:Nat) (pre:List α) (x:α) (W:World) (K:Act→World→Prop),w.heap.size≤z→I z pre W→Px z x W→(∀a' W',KeepsOthers W W'→Kp W W'→I z pre W'→Px z x W'→Ax z x a' W'→K a' W')→asg.wpIn (F.inRound l) (n-1-1) P (Exit.then K (fun _ _ _=>False)) { tmps:=(ps.zip (encs z x)).foldl (fun t (p,v)=>t.setIfInBounds p v) a.tmps,defers:=[] } W)
  (hbody:∀(l z:Nat) (pre:List α) (x:α) (a':Act) (W:World),w.heap.size≤z→w.heap.size≤l→(∃r,W.heap[l]?=some (.loop r))→I z pre W→Px z x W→Ax z x a' W→pre.length<N→bo.wpIn (F.inRound l) (n-1-1) P (ownPostS w.heap.size Kp (I z) Ix (pre++[x]) W) a' W)
  (hdone:∀(D z:Nat) (xs:List α) (W:World),w.heap.size≤D→w.heap.size≤z→S xs→I z xs W→W.heap[D]?=some (.deferred (some []))→Q .normal { a with defers:={ target:=.collected D,args:=#[] } :: a.defers } W)
  (hstop:∀(D:Nat) (c:Code) (pre:List α) (W:World),w.heap.size≤D→Sp pre→Ix c pre W→W.heap[D]?=some (.deferred (some []))→c.wpIn F n P Q { a with defers:={ target:=.collected D,args:=#[] } :: a.defers } W) :
  (Code.rangeFunc g ps asg bo).wpIn F n P Q a w:=by
 refine wpIn_rangeFunc (fun fn hfn=>?_)
 rw [hro]
 have hrun:=run_enterLoop_outer (P:=P) (w:=w) fn a.tmps ps asg bo
 generalize hW:(w.alloc (.deferred (some []))).alloc (.loop { state:=.ready,pending:=none,fn,tmps:=a.tmps,params:=ps,assign:=asg,body:=bo,defers:=w.heap.size })=W1 at hrun
 have hR1:RecAt W1 w.heap.size (recO fn a.tmps ps asg bo w.heap.size .ready none):=by
  subst hW
  refine ⟨?_,?_⟩
  ·have:=World.alloc_heap_new (w.alloc (.deferred (some []))) (.loop (recO fn a.tmps ps asg bo w.heap.size .ready none))
   rwa [World.size_alloc] at this
  ·exact (Below.heap_alloc _ _ _ (by simp)).trans (World.alloc_heap_new w _)
 have hz1:W1.heap.size=w.heap.size+2:=by subst hW;simp
 have hBw:Below w.heap.size w W1:=by subst hW;exact balloc (balloc (Below.refl w.heap.size w) _) _
 have hB1:Below w0.heap.size w0 W1:=hb0.trans (hBw.mono hb0.size)
 clear hW
 refine ⟨_,_,W1,{ target:=.fn (.func gf) lb,args:=#[.func (.yield (w.heap.size+1)) #[] #[]] },W1,gf,#[.func (.yield (w.heap.size+1)) #[] #[]]++lb,W1,hrun,?_,?_,?_,fun _=>h1,?_⟩
 ·simp only [resolve,hg]
  simp [go_sem]
 ·intro f' hf'
  simp [Target.leads] at hf'
  subst hf'
  exact hFg
 ·simp [invoke,go_sem,eg]
 ·have ow:∀{r:Loop} {A V:World} {row:Option Nat},RecAt A w.heap.size r→A.grownBy V row→(∀k,row=some k→W1.heap.size≤k∧∃o:Obj,A.heap[k]?=some o∧o.isCells=false)→RecAt V w.heap.size r:=fun h k q=>h.own k (fun z e=>by have:=(q z e).1;omega)
  have fr:∀{A:World} {row:Option Nat},(∀k,row=some k→W1.heap.size≤k∧∃o:Obj,A.heap[k]?=some o∧o.isCells=false)→∀k,row=some k→w.heap.size≤k∧∃o:Obj,A.heap[k]?=some o∧o.isCells=false:=fun q k e=>⟨by have:=(q k e).1;omega,(q k e).2⟩
  refine (hseq (w.heap.size+1) (fun z pre W=>I z pre W∧RecAt W w.heap.size (recO fn a.tmps ps asg bo w.heap.size .ready none)) (fun pre W=>∃c,Ix c pre W∧RecAt W w.heap.size (recO fn a.tmps ps asg bo w.heap.size .done (some c))) W1 hB1 (by omega)
   (fun z s A V row hs k q=>⟨hI z s A V row hs.1 k (fr q),ow hs.2 k q⟩) (fun s A V row hs k q=>by obtain ⟨c,hc,hr⟩:=hs;exact ⟨c,hIx c s A V row hc k (fr q),ow hr k q⟩) (fun ht z s V V' hz hs k=>⟨hIz ht z s V V' (by omega) hs.1 k,hs.2.own k (fun q e=>by injection e with e;omega)⟩)
   (fun hv=>⟨fun z z' s V V' hz hs k=>⟨(hvar hv).1 z z' s V V' (by omega) hs.1 (k.mono (by omega)),⟨(k.block _ (by omega)).trans hs.2.1,(k.block _ (by omega)).trans hs.2.2⟩⟩,fun s V V' hs k=>by obtain ⟨c,hc,hr⟩:=hs;exact ⟨c,(hvar hv).2 c s V V' hc (k.mono (by omega)),⟨(k.block _ (by omega)).trans hr.1,(k.block _ (by omega)).trans hr.2⟩⟩⟩) ?_ (fun z V hz hzV hV=>⟨h0 z V (by omega) hzV (hBw.trans (hV.mono (by omega))),⟨(hV.block _ (by omega)).trans hR1.1,(hV.block _ (by omega)).trans hR1.2⟩⟩)).mono ?_
  ·rintro z pre x W hz ⟨hi,hr⟩ hpx hlen
   have hy:(Instr.yield (w.heap.size+1) (encs z x)).run P W=_:=run_yield (P:=P) hr.1 (hps z x)
   refine ⟨_,_,_,_,hy,roundIn_of_wpIn hfn (hassign _ z pre x W _ (by omega) hi hpx (fun a' W' hko hkp hi' hpx' hax=>?_))⟩
   have hr':=hr.keeps hko
   refine ⟨_,run_beginRound hr'.1 rfl,?_⟩
   have hrb:RecAt (W'.putObj (w.heap.size+1) (.loop (recO fn a.tmps ps asg bo w.heap.size .busy none))) w.heap.size (recO fn a.tmps ps asg bo w.heap.size .busy none):=hr'.put _
   have hkb:Kp W (W'.putObj (w.heap.size+1) (.loop (recO fn a.tmps ps asg bo w.heap.size .busy none))):=hKt hkp (hKb _ _ _ _ (by omega) hr'.1 rfl)
   refine wpIn_mono (hbody _ z pre x a' _ (by omega) (by omega) ⟨_,hrb.1⟩ ((hI z).putObj _ hi' (by omega) hr'.1 rfl) ((hPx z).putObj _ hpx' (by omega) hr'.1 rfl) ((hAx z x a').putObj (s:=()) _ hax (by omega) hr'.1 rfl) hlen) ?_
   have kf:∀{V:World} (o:Obj),KeepsFrom w.heap.size (W'.putObj (w.heap.size+1) (.loop (recO fn a.tmps ps asg bo w.heap.size .busy none))) V→KeepsFrom W1.heap.size W (V.putObj (w.heap.size+1) o):=fun {V} o h=>(((hko.from _).trans (KeepsFrom.of_grownBy (grownBy_putObj' W' _ _) (fun j e=>by cases e;omega))).trans (keepsFrom_mono h (by omega))).trans (KeepsFrom.of_grownBy (grownBy_putObj' V _ _) (fun j e=>by cases e;omega))
   rintro e a3 V hp
   cases e with
   | normal =>
    have hv:=hrb.keepsF hp.1
    exact ⟨_,_,hv.fin none,.inl ⟨rfl,⟨(hI z).putObj _ hp.2.2 (by omega) hv.1 rfl,hv.put _⟩,hKt (hKt hkb hp.2.1) (hKb _ _ _ _ (by omega) hv.1 rfl),kf _ hp.1⟩⟩
   | ret =>
    have hv:=hrb.keepsF hp.1
    exact ⟨_,_,hv.fin (some .ret),.inr ⟨rfl,⟨.ret,(hIx _).putObj _ hp.2.2 (by omega) hv.1 rfl,hv.put _⟩,hKt (hKt hkb hp.2.1) (hKb _ _ _ _ (by omega) hv.1 rfl),kf _ hp.1⟩⟩
   | exit id =>
    have hv:=hrb.keepsF hp.1
    exact ⟨_,_,hv.fin (some (.exit id)),.inr ⟨rfl,⟨.exit id,(hIx _).putObj _ hp.2.2 (by omega) hv.1 rfl,hv.put _⟩,hKt (hKt hkb hp.2.1) (hKb _ _ _ _ (by omega) hv.1 rfl),kf _ hp.1⟩⟩
   | goto t =>
    have hv:=hrb.keepsF hp.1
    exact ⟨_,_,hv.fin (some (.goto t)),.inr ⟨rfl,⟨.goto t,(hIx _).putObj _ hp.2.2 (by omega) hv.1 rfl,hv.put _⟩,hKt (hKt hkb hp.2.1) (hKb _ _ _ _ (by omega) hv.1 rfl),kf _ hp.1⟩⟩
   | panic ch=>exact hp.elim
   | outgrown=>exact hp.elim
  ·rintro e V ⟨⟨v,rfl⟩,(⟨z,xs,hz,hS,hi,hr⟩ | ⟨pre,hSp,c,hi,hr⟩)⟩
   ·exact ⟨none,_,run_endLoop hr.1 (by simp [recO]),hdone _ z xs _ (Nat.le_refl _) (by omega) hS ((hI z).putObj _ hi (by omega) hr.1 rfl) (hr.put _).2⟩
   ·exact ⟨some c,_,run_endLoop hr.1 (by simp [recO]),hstop _ c pre _ (Nat.le_refl _) hSp ((hIx c).putObj _ hi (by omega) hr.1 rfl) (hr.put _).2⟩
end Go.Proofs.YthgikffcdgpgiaaGreatDoor

namespace Go.Proofs.YthgikffcdgpgiaaGreatDoor
open Go.RowKit
theorem bwF_prefix (n k:Nat):bwF n k <+: bwF n 0:=by
 unfold bwF
 rw [show n-0=n by omega,List.take_of_length_le (by simp:(List.finRange n).reverse.length≤n)]
 exact List.take_prefix _ _
set_option maxRecDepth 100000 in
set_option maxHeartbeats 2000000 in
theorem bwi_in2 (F:Fence) (n:Nat) (h8:F.fn 140) (hro:F.round=none) (hn:1≤n) (l Bs n₀ cap:Nat) (Ms:Nat→Prop) (a:Option Addr) (xs:List Ins) (L B:Nat) (hreach:xs.length≤1000000) (hM:∀k,L≤k→k<B→¬Ms k) (hMs:¬Ms Bs) (J Jx:List (Fin xs.length)→World→Prop)
  (hY:∀(pre:List (Fin xs.length)) (x:Fin xs.length) (W:World),J pre W→pre.length<xs.length→YieldAt F (n-1) Tryz.prog l #[.int .i64 ((x:Nat):Int),insV xs[x]] W fun e W' =>
   (e=.returned (.bool true)∧J (pre++[x]) W'∧KpB n₀ Ms W W')∨(e=.returned (.bool false)∧Jx (pre++[x]) W'))
  (W:World) (hBs:W.cell? ⟨Bs,0,none⟩=some (.slice a xs.length cap)) (hc:Hid (InssAt W L B a xs)) (h0:J [] W) :
  CallsIn F n Tryz.prog 140 #[.func (.yield l) #[] #[],.pointer (some ⟨Bs,0,none⟩)] W fun e W'=>(∃v,e=.returned v) ∧
   ((∃ys,ys=bwF xs.length 0∧J ys W')∨(∃pre,(∃q,pre=bwF xs.length q)∧Jx pre W')):=by
 refine callsIn_of_wp Tryz.func140 rfl h8 ?_ hro
 simp only [Tryz.ntmps140,List.size_toArray,List.length_cons,List.length_nil,Nat.reduceAdd,Nat.reduceSub,Array.replicate_succ,Array.replicate_zero,List.push_toArray,List.append_toArray,List.nil_append,List.cons_append]
 gi_wp2
 gi_loopw [3] (fun i wr=>∃(k:Nat) (z:Int),k≤xs.length∧i=.int .i64 z∧z+1=(k:Int)∧J (bwF xs.length k) wr∧KpB n₀ Ms W wr)
  (fun i _=>(intOf i+1).toNat)
 case atStart=>exact ⟨xs.length,_,Nat.le_refl _,rfl,by omega,by rw [bwF_start];exact h0,KpB.refl _⟩
 case round =>
  obtain ⟨k,z,hk,rfl,hzk,hJs,hnx⟩:=hrel
  have hBs':=hnx.cell hBs hMs
  cases k with
  | zero =>
   have hz1:z=-1:=by omega
   subst hz1
   gi_wp2
   go_end0
   exact ⟨⟨_,rfl⟩,.inl ⟨_,rfl,hJs⟩⟩
  | succ q =>
   have hz1:z=(q:Int):=by omega
   subst hz1
   have hq:q<xs.length:=hk
   obtain ⟨b,o,ea,hbB,hcx⟩:=hc.out q hq
   subst ea
   have hMb:=hM b hbB.1 hbB.2
   obtain ⟨q0,q1,q2,q3,q4⟩:=hcx
   have r0:=hnx.cell q0 hMb
   have r1:=hnx.cell q1 hMb
   have r2:=hnx.cell q2 hMb
   have r3:=hnx.cell q3 hMb
   have r4:=hnx.cell q4 hMb
   clear q0 q1 q2 q3 q4
   obtain ⟨fn,tmps,assign,body,hy,hR⟩:=hY _ ⟨q,hq⟩ wr hJs (by rw [bwF_len];omega)
   have hyy:(Instr.yield l #[.int .i64 ((q:Nat):Int),.agg #[.int .i64 xs[q].op,.int .i64 xs[q].dst,.int .i64 xs[q].a,.int .i64 xs[q].b,.int .i64 xs[q].imm]]).run Tryz.prog wr=_:=hy
   clear hy
   gi_wp2
   refine hR.mono ?_
   rintro e W3 (⟨rfl,hJ3,hk3⟩ | ⟨rfl,hJx3⟩)
   ·gi_wp2
    go_roundw
    case rel=>exact ⟨q,_,by omega,rfl,by omega,by rw [bwF_step hq];exact hJ3,hnx.trans hk3⟩
    case measure=>simp [intOf]
   ·gi_wp2
    refine bodyPost_ret (results_none rfl _ _ _) rfl ?_
    exact ⟨⟨_,rfl⟩,.inr ⟨_,⟨q,(bwF_step hq).symm⟩,hJx3⟩⟩
theorem backwardI_stops2 (F:Fence) (n:Nat) (h8:F.fn 140) (hro:F.round=none) (hn:1≤n) (Bs n₀ cap:Nat) (Ms:Nat→Prop) (a:Option Addr) (xs:List Ins) (L B:Nat) (hreach:xs.length≤1000000) (hB:B≤n₀) (hM:∀k,L≤k→k<B→¬Ms k) (hMs:¬Ms Bs) (w:World) (hn0:n₀≤w.heap.size) (hBs:Bs<w.heap.size)
  (hc:w.cell? ⟨Bs,0,none⟩=some (.slice a xs.length cap)) (hI:Hid (InssAt w L B a xs)) :
  SeqStopsK F n Tryz.prog 140 #[.pointer (some ⟨Bs,0,none⟩)] (fun x:Fin xs.length=>#[Value.int .i64 ((x:Nat):Int),insV xs[x]]) (KpB n₀ Ms) (fun ys=>ys=bwF xs.length 0) (fun pre=>∃q,pre=bwF xs.length q) xs.length w:=fun l J Jx W hW _ _ hY h0 =>
 bwi_in2 F n h8 hro hn l Bs n₀ cap Ms a xs L B hreach hM hMs J Jx hY W ((hW.cell (p:=⟨Bs,0,none⟩) hBs).trans hc) (hide (hI.out.keepS (fun k _ h2=>hW.block k (by omega)))) h0
end Go.Proofs.YthgikffcdgpgiaaGreatDoor
