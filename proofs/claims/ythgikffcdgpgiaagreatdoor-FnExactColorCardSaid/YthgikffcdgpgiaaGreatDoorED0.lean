import Derived.Test.YthgikffcdgpgiaaGreatDoorED1
import Derived.Test.YthgikffcdgpgiaaGreatDoorSS3
import Derived.Test.YthgikffcdgpgiaaGreatDoorCL1
namespace Go.Proofs.YthgikffcdgpgiaaGreatDoor
open Go.RowKit
structure EdS (V:Nat) (w6:World) (G m Kw z:Nat) (pre:List Sd) (U:World):Prop where
 os:U.os=w6.os
 tape:U.tape=w6.tape
 output:U.output=w6.output
 size:w6.heap.size≤U.heap.size
 fr:∀q,q<w6.heap.size→q≠G→U.heap[q]?=w6.heap[q]?
 zl:w6.heap.size≤z∧z<U.heap.size
 gl:G<w6.heap.size
 db:∃T:Nat→Value,U.rowIs G 75 m T∧∀i,i<m→(∀q∈pre,q.i≠i)∨∃q∈pre,q.i=i∧(WdOk q.W∧LtV V Kw q.W)∧∃zi ci,T i=.slice (some ⟨zi,0,none⟩) Kw ci∧(w6.heap.size≤zi∧zi≠z)∧WsAt U zi Kw ci q.W
section
variable {V : Nat} {w6 U U' U5 : World} {G m Kw z : Nat} {pre : List Sd}
theorem WsAt.cells {w:World} {g K C:Nat} {W:Nat→Nat} (h:WsAt w g K C W):∃o,w.heap[g]?=some o∧o.isCells=true:=by
 obtain ⟨_,T,c,h1,_⟩:=h
 exact ⟨_,h1,rfl⟩
theorem EdS.row (h:EdS V w6 G m Kw z pre U) {r:Nat} (hr:w6.heap.size≤r) (k:U.grownBy U' (some r)) (hn:r=z∨∃o:Obj,U.heap[r]?=some o∧o.isCells=false):EdS V w6 G m Kw z pre U':=by
 obtain ⟨T,h1,h3⟩:=h.db
 have hgl:=h.gl
 refine ⟨k.os.trans h.os,k.tape.trans h.tape,k.output.trans h.output,Nat.le_trans h.size k.size,fun q q1 q2=>(k.block q (by have:=h.size;omega) (fun e=>by injection e with e;omega)).trans (h.fr q q1 q2),⟨h.zl.1,Nat.lt_of_lt_of_le h.zl.2 k.size⟩,hgl,T,h1.of_block (k.block G h1.lt (fun e=>by injection e with e;omega)),fun i hi=>?_⟩
 rcases h3 i hi with e | ⟨q,q1,q2,q3,zi,ci,e1,e2,e3⟩
 ·exact Or.inl e
 ·refine Or.inr ⟨q,q1,q2,q3,zi,ci,e1,e2,e3.of_block (k.block zi e3.lt (fun e=>?_))⟩
  injection e with e
  rcases hn with hn | ⟨o,o1,o2⟩
  ·exact e2.2 (by rw [e];exact hn)
  ·obtain ⟨o',o3,o4⟩:=e3.cells
   rw [e,o1] at o3
   injection o3 with o3
   subst o3
   rw [o2] at o4
   cases o4
theorem EdS.below (h:EdS V w6 G m Kw z pre U) (k:Below U.heap.size U U'):EdS V w6 G m Kw z pre U':=by
 obtain ⟨T,h1,h3⟩:=h.db
 refine ⟨k.os.trans h.os,k.tape.trans h.tape,k.output.trans h.output,Nat.le_trans h.size k.size,fun q q1 q2=>(k.block q (by have:=h.size;omega)).trans (h.fr q q1 q2),⟨h.zl.1,Nat.lt_of_lt_of_le h.zl.2 k.size⟩,h.gl,T,h1.of_block (k.block G h1.lt),fun i hi=>?_⟩
 rcases h3 i hi with e | ⟨q,q1,q2,q3,zi,ci,e1,e2,e3⟩
 ·exact Or.inl e
 ·exact Or.inr ⟨q,q1,q2,q3,zi,ci,e1,e2,e3.of_block (k.block zi e3.lt)⟩
theorem EdS.turn (h:EdS V w6 G m Kw z pre U) (k:U.grownBy U' (some z)):EdS V w6 G m Kw z pre U':=h.row h.zl.1 k (Or.inl rfl)
theorem EdS.own (V:Nat) (w6:World) (G m Kw z:Nat):OwnFrom w6.heap.size (EdS V w6 G m Kw z):=fun pre U U' row h k q=>by
 cases row with
 | none=>exact h.below ⟨k.os,k.tape,k.output,k.size,fun b hb=>k.block b hb (fun e=>by cases e)⟩
 | some r =>
  obtain ⟨h1,o,h2,h3⟩:=q r rfl
  exact h.row h1 k (Or.inr ⟨o,h2,h3⟩)
theorem EdS.push (h:EdS V w6 G m Kw z pre U) {s:Sd} (hs:WdOk s.W∧LtV V Kw s.W) (k:Below U.heap.size U U5) {zi ci:Nat} (hz:U.heap.size≤zi) (hw:WsAt U5 zi Kw ci s.W):EdS V w6 G m Kw z (pre++[s]) (U5.setCell ⟨G,s.i,none⟩ (.slice (some ⟨zi,0,none⟩) Kw ci)):=by
 have h5:=h.below k
 obtain ⟨T,h1,h3⟩:=h5.db
 have hgl:=h.gl
 have hsz:=h.size
 have hzl:=h.zl
 refine ⟨h5.os,h5.tape,h5.output,by rw [size_setCell];exact h5.size,fun q q1 q2=>(Below.heap_setCell _ _ _ _ q2).trans (h5.fr q q1 q2),⟨h5.zl.1,by rw [size_setCell];exact h5.zl.2⟩,hgl,fun i=>if i=s.i then .slice (some ⟨zi,0,none⟩) Kw ci else T i,(h1.set s.i _).congr (fun i _=>by by_cases e:i=s.i<;>simp [e]),fun i hi=>?_⟩
 by_cases e:i=s.i
 ·refine Or.inr ⟨s,by simp,e.symm,hs,zi,ci,by simp only [e,if_true],⟨by omega,by omega⟩,hw.setOther (by show zi≠G;omega) _⟩
 ·rcases h3 i hi with e1 | ⟨q,q1,q2,q3,zi',ci',e1,e2,e3⟩
  ·refine Or.inl (fun q hq=>?_)
   rcases List.mem_append.1 hq with hq | hq
   ·exact e1 q hq
   ·rw [List.mem_singleton.1 hq]
    exact fun e3=>e e3.symm
  ·exact Or.inr ⟨q,List.mem_append_left _ q1,q2,q3,zi',ci',by simp only [e,if_false];exact e1,e2,e3.setOther (by show zi'≠G;omega) _⟩
theorem EdS.cell (h:EdS V w6 G m Kw z pre U) {b o:Nat} {v:Value} (hb:b≠G) (hc:w6.cell? ⟨b,o,none⟩=some v):U.cell? ⟨b,o,none⟩=some v:=(cell_of (h.fr b (World.block_lt_of_cell? w6 _ hc) hb)).trans hc
theorem EdS.done {xs:List Blk} (ho:OkL V xs) {k:Nat} (hk:k<xs.length) {W0:Nat→Nat} (hV:V≤64*Kw) (hq:∀v,v<64*Kw→(hasN W0 v=true↔Lou xs v k)) {ss:List Sd} (hs:ss.map Sd.dat=sdL xs[k].instrs.length W0 (plL xs[k])) (h:EdS V w6 G (xs[k].instrs.length+1) Kw z ss U) :
  ∃(zs cw:Nat→Nat) (Ws:Nat→Nat→Nat),∀i,i≤xs[k].instrs.length→U.cell? ⟨G,i,none⟩=some (.slice (some ⟨zs i,0,none⟩) Kw (cw i))∧w6.heap.size≤zs i∧WsAt U (zs i) Kw (cw i) (Ws i)∧WdOk (Ws i)∧LtV V Kw (Ws i)∧lsN (Ws i) (64*Kw)=ptP xs xs[k] V k i:=by
 obtain ⟨T,h1,h3⟩:=h.db
 have key:∀i,∃zi ci Wi,i≤xs[k].instrs.length→U.cell? ⟨G,i,none⟩=some (.slice (some ⟨zi,0,none⟩) Kw ci)∧w6.heap.size≤zi∧WsAt U zi Kw ci Wi∧WdOk Wi∧LtV V Kw Wi∧lsN Wi (64*Kw)=ptP xs xs[k] V k i:=fun i=>by
  by_cases hi:i≤xs[k].instrs.length
  ·rcases h3 i (by omega) with e | ⟨q,q1,q2,q3,zi,ci,e1,e2,e3⟩
   ·obtain ⟨W,hW⟩:=sd_ex xs[k] W0 (i:=i) (by omega)
    rw [←hs] at hW
    obtain ⟨q,q1,q2⟩:=List.mem_map.1 hW
    exact absurd (congrArg Prod.fst q2) (e q q1)
   ·refine ⟨zi,ci,q.W,fun _=>⟨by rw [h1.cell (by omega),e1],e2.1,e3,q3.1,q3.2,?_⟩⟩
    have hm:(i,q.W)∈sdL xs[k].instrs.length W0 (plL xs[k]):=by
     rw [←hs,←q2]
     exact List.mem_map.2 ⟨q,q1,rfl⟩
    rw [ls_pt ho hk hV hq hm]
  ·exact ⟨0,0,fun _=>0,fun h=>absurd h hi⟩
 refine ⟨fun i=>Classical.choose (key i),fun i=>Classical.choose (Classical.choose_spec (key i)),fun i=>Classical.choose (Classical.choose_spec (Classical.choose_spec (key i))),fun i hi=>Classical.choose_spec (Classical.choose_spec (Classical.choose_spec (key i))) hi⟩
end
theorem sk_cut {xs:List Blk} {V:Nat} {od:List Nat} {k:Nat} (hk:k<od.length) (hb:od[k]<xs.length):∃post,skA xs V od=skA xs V (od.take k)++(phS xs V od[k] xs[od[k]] xs[od[k]].phis.length++inS xs V od[k] xs[od[k]] xs[od[k]].instrs.length)++post:=by
 have e:od=od.take k++od[k]::od.drop (k+1):=by rw [List.getElem_cons_drop,List.take_append_drop]
 refine ⟨skA xs V (od.drop (k+1)),?_⟩
 have h2:skB xs V od[k]=phS xs V od[k] xs[od[k]] xs[od[k]].phis.length++inS xs V od[k] xs[od[k]] xs[od[k]].instrs.length:=by
  unfold skB
  rw [List.getElem?_eq_getElem hb]
 rw [←h2]
 unfold skA
 conv=>lhs;rw [e]
 rw [List.flatMap_append,List.flatMap_cons,List.append_assoc]
theorem ph_cut {xs:List Blk} {V b:Nat} {x:Blk} {i:Nat} (hi:i<x.phis.length):∃r,phS xs V b x x.phis.length=phS xs V b x i++(x.phis[i].dst.toNat,ptP xs x V b 0)::r:=by
 refine ⟨(x.phis.drop (i+1)).map fun p=>(p.dst.toNat,ptP xs x V b 0),?_⟩
 have e:x.phis=x.phis.take i++x.phis[i]::x.phis.drop (i+1):=by rw [List.getElem_cons_drop,List.take_append_drop]
 unfold phS
 rw [List.take_length]
 conv=>lhs;rw [e]
 rw [List.map_append,List.map_cons]
theorem in_cut {xs:List Blk} {V b:Nat} {x:Blk}:∀(m i:Nat),∃r,inS xs V b x (i+m)=inS xs V b x i++r
 | 0,i=>⟨[],by simp⟩
 | m+1,i=>by
  obtain ⟨r,hr⟩:=in_cut (xs:=xs) (V:=V) (b:=b) (x:=x) m i
  rw [←Nat.add_assoc,inS,hr]
  exact ⟨_,List.append_assoc _ _ _⟩
theorem sk_ph {xs:List Blk} {V:Nat} {od:List Nat} {k:Nat} (hk:k<od.length) (hb:od[k]<xs.length) {i:Nat} (hi:i<xs[od[k]].phis.length):∃post,skA xs V od=(skA xs V (od.take k)++phS xs V od[k] xs[od[k]] i)++(xs[od[k]].phis[i].dst.toNat,ptP xs xs[od[k]] V od[k] 0)::post:=by
 obtain ⟨p1,e1⟩:=sk_cut (V:=V) hk hb
 obtain ⟨p2,e2⟩:=ph_cut (xs:=xs) (V:=V) (b:=od[k]) hi
 rw [e1,e2]
 exact ⟨p2++inS xs V od[k] xs[od[k]] xs[od[k]].instrs.length++p1,by simp [List.append_assoc]⟩
theorem sk_in {xs:List Blk} {V:Nat} {od:List Nat} {k:Nat} (hk:k<od.length) (hb:od[k]<xs.length) {i d:Nat} (hi:i<xs[od[k]].instrs.length) (hu:dB xs[od[k]].instrs[i].op=true) (hd:xs[od[k]].instrs[i].dst=(d:Int)):∃post,skA xs V od=(skA xs V (od.take k)++phS xs V od[k] xs[od[k]] xs[od[k]].phis.length++inS xs V od[k] xs[od[k]] i)++(d,ptP xs xs[od[k]] V od[k] (i+1))::post:=by
 obtain ⟨p1,e1⟩:=sk_cut (V:=V) hk hb
 obtain ⟨p2,e2⟩:=in_cut (xs:=xs) (V:=V) (b:=od[k]) (x:=xs[od[k]]) (xs[od[k]].instrs.length-(i+1)) (i+1)
 rw [show i+1+(xs[od[k]].instrs.length-(i+1))=xs[od[k]].instrs.length by omega,inS_yes hi hu hd] at e2
 rw [e1,e2]
 exact ⟨p2++p1,by simp [List.append_assoc]⟩
theorem sk_next {xs:List Blk} {V:Nat} {od:List Nat} {k:Nat} (hk:k<od.length) (hb:od[k]<xs.length):skA xs V (od.take (k+1))=skA xs V (od.take k)++phS xs V od[k] xs[od[k]] xs[od[k]].phis.length++inS xs V od[k] xs[od[k]] xs[od[k]].instrs.length:=by
 rw [List.take_add_one,List.getElem?_eq_getElem hk]
 show skA xs V (od.take k++[od[k]])=_
 rw [skA_snoc]
 unfold skB
 rw [List.getElem?_eq_getElem hb,List.append_assoc]
end Go.Proofs.YthgikffcdgpgiaaGreatDoor
