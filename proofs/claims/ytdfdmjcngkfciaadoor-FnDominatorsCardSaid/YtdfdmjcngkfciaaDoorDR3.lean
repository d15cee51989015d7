import Derived.Test.YtdfdmjcngkfciaaDoorDRb
namespace Go.Proofs.YtdfdmjcngkfciaaDoor
open Go.RowKit
structure Y3 where
 k:Nat
 tl:List Value
set_option maxHeartbeats 4000000 in
set_option maxRecDepth 100000 in
theorem rn3 {Q:Exit→Act→World→Prop} (w:World) (lab:Nat→Nat × Nat × Nat) (base v G n c:Nat) (xs:List Blk) (pv iv:Nat→Value) (av:Nat→Nat→Value) (top:Int) (b j:Nat) (c0 c2 c7 c8:Value) (hQ:Hid (∀c (a:Act) t v w,Q (.panic c) (a.put (some t) v) w→Q (.panic c) a w)) (hb:b<xs.length) (hj:j<xs[b].phis.length) (hn:Hid (n=xs.length)) (hl2:Hid (xs[b].phis.length≤1000∧xs[b].phis[j].args.length≤1000))
  (hexit:∀(tl:List Value) (w':World),tl.length=161→RnS w w' lab base v G n c (xs.set b (xs[b].setPhi j ⟨xs[b].phis[j].dst,xs[b].phis[j].args.map (fun z=>wrap64 (top-z))⟩)) pv iv av→∀c6,Q (.exit 4) ⟨(c0::.pointer (some ⟨w.heap.size,0,none⟩)::c2::.int .i64 top::.int .i64 ((b:Nat):Int)::.int .i64 ((j:Nat):Int)::c6::c7::c8::tl).toArray,[]⟩ w')
  (tl:List Value) (wr:World) (hl:tl.length=161) (h:Hid (RnS w wr lab base v G n c xs pv iv av)) :
  Code.wp Tryd.prog (Code.loop rB3) Q ⟨(c0::.pointer (some ⟨w.heap.size,0,none⟩)::c2::.int .i64 top::.int .i64 ((b:Nat):Int)::.int .i64 ((j:Nat):Int)::.int .i64 ((0:Nat):Int)::c7::c8::tl).toArray,[]⟩ wr:=by
 have HX:=hide hexit
 clear hexit
 obtain ⟨M,hM⟩:∃M,M=xs[b].phis[j].args.length:=⟨_,rfl⟩
 have HM:=hide hM
 refine wp_loop (fun a' wr=>∃x:Y3,a'=⟨(c0::.pointer (some ⟨w.heap.size,0,none⟩)::c2::.int .i64 top::.int .i64 ((b:Nat):Int)::.int .i64 ((j:Nat):Int)::.int .i64 ((x.k:Nat):Int)::c7::c8::x.tl).toArray,[]⟩∧x.tl.length=161∧x.k≤M∧Hid (RnS w wr lab base v G n c (xs.set b (xs[b].setPhi j ⟨xs[b].phis[j].dst,mapTo (fun z=>wrap64 (top-z)) x.k xs[b].phis[j].args⟩)) pv iv av)) (fun a' _=>M-(intOf (a'.tmps.getD 6 undef)).toNat) ⟨⟨0,tl⟩,rfl,hl,Nat.zero_le _,hide (by
  have e:xs.set b (xs[b].setPhi j ⟨xs[b].phis[j].dst,mapTo (fun z=>wrap64 (top-z)) 0 xs[b].phis[j].args⟩)=xs:=by
   rw [mapTo_zero]
   show xs.set b ⟨xs[b].phis.set j xs[b].phis[j],xs[b].instrs,xs[b].term⟩=xs
   rw [List.set_getElem_self]
   exact List.set_getElem_self hb
  rw [e]
  exact h.out)⟩ ?_
 clear h hl hM
 rintro a' wr ⟨⟨k,tl⟩,rfl,hl,hk,HS⟩
 dsimp only at hl hk HS ⊢
 conv=>arg 2;whnf
 obtain ⟨f,rfl⟩:=spr9 tl hl
 clear hl
 have hxl:(xs.set b (xs[b].setPhi j ⟨xs[b].phis[j].dst,mapTo (fun z=>wrap64 (top-z)) k xs[b].phis[j].args⟩)).length=n:=by rw [List.length_set];exact hn.out.symm
 have hb':b<(xs.set b (xs[b].setPhi j ⟨xs[b].phis[j].dst,mapTo (fun z=>wrap64 (top-z)) k xs[b].phis[j].args⟩)).length:=by simpa using hb
 have hxe:(xs.set b (xs[b].setPhi j ⟨xs[b].phis[j].dst,mapTo (fun z=>wrap64 (top-z)) k xs[b].phis[j].args⟩))[b]=xs[b].setPhi j ⟨xs[b].phis[j].dst,mapTo (fun z=>wrap64 (top-z)) k xs[b].phis[j].args⟩:=getElem_setSelf _ _ _ _
 have hj':j<(xs.set b (xs[b].setPhi j ⟨xs[b].phis[j].dst,mapTo (fun z=>wrap64 (top-z)) k xs[b].phis[j].args⟩))[b].phis.length:=by rw [hxe];simpa [Blk.setPhi] using hj
 have hxa:((xs.set b (xs[b].setPhi j ⟨xs[b].phis[j].dst,mapTo (fun z=>wrap64 (top-z)) k xs[b].phis[j].args⟩))[b].phis[j]).args=mapTo (fun z=>wrap64 (top-z)) k xs[b].phis[j].args:=by simp only [Blk.setPhi,getElem_setSelf]
 have hxd:((xs.set b (xs[b].setPhi j ⟨xs[b].phis[j].dst,mapTo (fun z=>wrap64 (top-z)) k xs[b].phis[j].args⟩))[b].phis[j]).dst=xs[b].phis[j].dst:=by simp only [Blk.setPhi,getElem_setSelf]
 have hbn:b<n:=by have:=hn.out;omega
 obtain ⟨g,cp,hpv⟩:=(HS.out.fn.phis b hb').got (by omega)
 obtain ⟨np,hnp⟩:∃np,np=(xs.set b (xs[b].setPhi j ⟨xs[b].phis[j].dst,mapTo (fun z=>wrap64 (top-z)) k xs[b].phis[j].args⟩))[b].phis.length:=⟨_,rfl⟩
 rw [←hnp] at hpv
 have hjn:j<np:=by omega
 obtain ⟨aa,ac,hav⟩:=(HS.out.fn.args b hb' j hj').form
 rw [hxa,mapTo_len,←HM.out] at hav
 have x1:wr.cell? ⟨w.heap.size,1,none⟩=some (.slice (some ⟨G,0,none⟩) n c):=Bx.cell HS.out.box rfl
 have x2:wr.cell? ⟨G,b*6,none⟩=some (.slice (some ⟨g,0,none⟩) np cp):=by rw [←hpv];exact (HS.out.fn.cells hb').1
 have x3:wr.cell? ⟨g,j*2+1,none⟩=some (.slice aa M ac):=by rw [←hav];exact (HS.out.fn.phiCells hb' hj' hpv).2
 have hM1:M≤1000:=by have:=hl2.out;have:=HM.out;omega
 by_cases hlt:k<M
 ·have hltI:(k:Int)<M:=by omega
  have hka:k<xs[b].phis[j].args.length:=by rw [←HM.out];exact hlt
  obtain ⟨g2,c2',hav2⟩:=(HS.out.fn.args b hb' j hj').got (by rw [hxa,mapTo_len];omega)
  rw [hxa,mapTo_len,←HM.out] at hav2
  rw [hav] at hav2
  injection hav2 with e1 _ e3
  subst e1 e3
  obtain ⟨hf9,hgl,hcell,hz⟩:=HS.out.fn.setArg (k:=k) (d:=wrap64 (top-xs[b].phis[j].args[k])) hb' hj' (by rw [hxa,mapTo_len];exact hka) hav
  have hck:wr.cell? ⟨g2,k,none⟩=some (.int .i64 xs[b].phis[j].args[k]):=by
   rw [hcell]
   congr 2
   simp only [hxa]
   exact mapTo_at hka _
  have hgb:base≤g2:=by
   have:=(HS.out.fn.args b hb' j hj').own.lt g2 (by rw [hav];rfl)
   exact this.1
  have HF9:=hide (HS.out.put hf9 (by rw [hgl];simp) hgb)
  have HXE:Hid ((xs.set b (xs[b].setPhi j ⟨xs[b].phis[j].dst,mapTo (fun z=>wrap64 (top-z)) k xs[b].phis[j].args⟩)).set b ((xs.set b (xs[b].setPhi j ⟨xs[b].phis[j].dst,mapTo (fun z=>wrap64 (top-z)) k xs[b].phis[j].args⟩))[b].setPhi j ⟨((xs.set b (xs[b].setPhi j ⟨xs[b].phis[j].dst,mapTo (fun z=>wrap64 (top-z)) k xs[b].phis[j].args⟩))[b].phis[j]).dst,((xs.set b (xs[b].setPhi j ⟨xs[b].phis[j].dst,mapTo (fun z=>wrap64 (top-z)) k xs[b].phis[j].args⟩))[b].phis[j]).args.set k (wrap64 (top-xs[b].phis[j].args[k]))⟩)=(xs.set b (xs[b].setPhi j ⟨xs[b].phis[j].dst,mapTo (fun z=>wrap64 (top-z)) (k+1) xs[b].phis[j].args⟩))):=hide (by
   rw [hxd,hxa,hxe,List.set_set,←mapTo_set hka]
   simp [Blk.setPhi])
  rw [HXE.out] at HF9
  have HS9:Hid (∀u,(wr.setCell ⟨g2,k,none⟩ u).cell? ⟨w.heap.size,1,none⟩=some (.slice (some ⟨G,0,none⟩) n c)∧(wr.setCell ⟨g2,k,none⟩ u).cell? ⟨G,b*6,none⟩=some (.slice (some ⟨g,0,none⟩) np cp)∧(wr.setCell ⟨g2,k,none⟩ u).cell? ⟨g,j*2+1,none⟩=some (.slice (some ⟨g2,0,none⟩) M ac)):=hide (fun u=>by
   have l1:=HS.out.fr w.heap.size (Nat.le_refl _)
   have l2:=HS.out.fn.blks.lab G rfl
   have l3:=(HS.out.fn.phis b hb').lab g (by rw [hpv];rfl)
   have n1:w.heap.size≠g2:=fun e=>by rw [e,hgl] at l1;simp at l1
   have n2:G≠g2:=fun e=>by rw [e,hgl] at l2;simp at l2
   have n3:g≠g2:=fun e=>by rw [e,hgl] at l3;simp at l3
   exact ⟨(cell_of (Below.heap_setCell _ _ _ _ n1)).trans x1,(cell_of (Below.heap_setCell _ _ _ _ n2)).trans x2,(cell_of (Below.heap_setCell _ _ _ _ n3)).trans x3⟩)
  clear hf9 hcell hxa hxd hxe hpv hav hnp hgl hxl HXE hj' hb'
  generalize xs[b].phis[j].args[k]=z at *
  go_wp2_with fail
  refine wp_region_held_drew (S:=(fun w'=>w'.cell? ⟨w.heap.size,1,none⟩=some (.slice (some ⟨G,0,none⟩) n c)∧w'.cell? ⟨G,b*6,none⟩=some (.slice (some ⟨g,0,none⟩) np cp)∧w'.cell? ⟨g,j*2+1,none⟩=some (.slice (some ⟨g2,0,none⟩) M ac))) (by kernel_rfl) (by (try dsimp only);go_keep) (fun hHeld=>?_)
  refine tkQ 0 rfl (v:=?_) (fun _ _ _ h=>hQ.out _ _ _ _ _ h) ?_
  simp only [Act.put,xA,xB,xD,xE,xF]
  refine tkQ 1 rfl (v:=?_) (fun _ _ _ h=>hQ.out _ _ _ _ _ h) ?_
  simp only [Act.put,xA,xB,xC,xD,xE,xF]
  refine tkQ 2 rfl (v:=?_) (fun _ _ _ h=>hQ.out _ _ _ _ _ h) ?_
  simp only [Act.put,xA,xB,xC,xD,xE,xF]
  refine tkQ 3 rfl (v:=?_) (fun _ _ _ h=>hQ.out _ _ _ _ _ h) ?_
  simp only [Act.put,xA,xB,xC,xD,xE,xF]
  refine tkQ 4 rfl (v:=?_) (fun _ _ _ h=>hQ.out _ _ _ _ _ h) ?_
  simp only [Act.put,xA,xB,xC,xD,xE,xF]
  refine tkQ 5 rfl (v:=?_) (fun _ _ _ h=>hQ.out _ _ _ _ _ h) ?_
  simp only [Act.put,xA,xB,xC,xD,xE,xF]
  refine tkQ 6 rfl (v:=?_) (fun _ _ _ h=>hQ.out _ _ _ _ _ h) ?_
  simp only [Act.put,xA,xB,xC,xD,xE,xF]
  refine tkQ 7 rfl (v:=?_) (fun _ _ _ h=>hQ.out _ _ _ _ _ h) ?_
  simp only [Act.put,xA,xB,xC,xD,xE,xF]
  refine tkQ 8 rfl (v:=?_) (fun _ _ _ h=>hQ.out _ _ _ _ _ h) ?_
  simp only [Act.put,xA,xB,xC,xD,xE,xF]
  refine tkQ 9 rfl (v:=?_) (fun _ _ _ h=>hQ.out _ _ _ _ _ h) ?_
  simp only [Act.put,xA,xB,xC,xD,xE,xF]
  refine tkQ 10 rfl (v:=?_) (fun _ _ _ h=>hQ.out _ _ _ _ _ h) ?_
  simp only [Act.put,xA,xB,xC,xD,xE,xF]
  refine tkQ 11 rfl (v:=?_) (fun _ _ _ h=>hQ.out _ _ _ _ _ h) ?_
  simp only [Act.put,xA,xB,xC,xD,xE,xF]
  refine tkQ 12 rfl (v:=?_) (fun _ _ _ h=>hQ.out _ _ _ _ _ h) ?_
  simp only [Act.put,xA,xB,xC,xD,xE,xF]
  refine tkQ 13 rfl (v:=?_) (fun _ _ _ h=>hQ.out _ _ _ _ _ h) ?_
  simp only [Act.put,xA,xB,xC,xD,xE,xF]
  refine tkQ 14 rfl (v:=?_) (fun _ _ _ h=>hQ.out _ _ _ _ _ h) ?_
  simp only [Act.put,xA,xB,xC,xD,xE,xF]
  refine tkQ 15 rfl (v:=?_) (fun _ _ _ h=>hQ.out _ _ _ _ _ h) ?_
  simp only [Act.put,xA,xB,xC,xD,xE,xF]
  refine tkQ 16 rfl (v:=?_) (fun _ _ _ h=>hQ.out _ _ _ _ _ h) ?_
  simp only [Act.put,xA,xB,xC,xD,xE,xF]
  refine tkQ 17 rfl (v:=?_) (fun _ _ _ h=>hQ.out _ _ _ _ _ h) ?_
  simp only [Act.put,xA,xB,xC,xD,xE,xF]
  refine tkQ 18 rfl (v:=?_) (fun _ _ _ h=>hQ.out _ _ _ _ _ h) ?_
  simp only [Act.put,xA,xB,xC,xD,xE,xF]
  refine tkQ 19 rfl (v:=?_) (fun _ _ _ h=>hQ.out _ _ _ _ _ h) ?_
  simp only [Act.put,xA,xB,xC,xD,xE,xF]
  refine tkQ 20 rfl (v:=?_) (fun _ _ _ h=>hQ.out _ _ _ _ _ h) ?_
  simp only [Act.put,xA,xB,xC,xD,xE,xF]
  refine tkQ 21 rfl (v:=?_) (fun _ _ _ h=>hQ.out _ _ _ _ _ h) ?_
  simp only [Act.put,xA,xB,xC,xD,xE,xF]
  refine tkQ 22 rfl (v:=?_) (fun _ _ _ h=>hQ.out _ _ _ _ _ h) ?_
  simp only [Act.put,xA,xB,xC,xD,xE,xF]
  refine tkQ 23 rfl (v:=?_) (fun _ _ _ h=>hQ.out _ _ _ _ _ h) ?_
  simp only [Act.put,xA,xB,xC,xD,xE,xF]
  refine wpAnyH_ready (rs:=[24]) (by kernel_rfl) (by simp) ?_
  refine AllReadyH.cons rfl (fun K hK=>?_) AllReadyH.nil
  go_simp
  refine hK.out _ _ (by first | with_reducible exact hHeld | ((try dsimp only);go_keep)) (fun hHeld=>?_)
  clear hK
  try simp only [Act.put,xA,xB,xC,xD,xE,xF]
  refine tkQ 25 rfl (v:=?_) (fun _ _ _ h=>hQ.out _ _ _ _ _ h) ?_
  simp only [Act.put,xA,xB,xC,xD,xE,xF]
  refine tkQ 26 rfl (v:=?_) (fun _ _ _ h=>hQ.out _ _ _ _ _ h) ?_
  simp only [Act.put,xA,xB,xC,xD,xE,xF]
  refine wpAnyH_ready (rs:=[27]) (by kernel_rfl) (by simp) ?_
  refine AllReadyH.cons rfl (fun K hK=>?_) AllReadyH.nil
  go_simp
  refine hK.out _ _ (HS9.out _) (fun hHeld=>?_)
  clear hK
  try simp only [Act.put,xA,xB,xC,xD,xE,xF]
  refine wpAnyH_done (by kernel_rfl) ?_ _
  clear hHeld
  go_wp2_with fail
  refine ⟨⟨⟨k+1,_⟩,rfl,rfl,(by show k+1≤M;omega),hide ?_⟩,by simp [intOf];omega⟩
  exact HF9.out.drew
 ·have hltI:¬(k:Int)<M:=by omega
  have hke:k=xs[b].phis[j].args.length:=by rw [←HM.out];omega
  have HFN:Hid (RnS w wr lab base v G n c (xs.set b (xs[b].setPhi j ⟨xs[b].phis[j].dst,xs[b].phis[j].args.map (fun z=>wrap64 (top-z))⟩)) pv iv av):=hide (by
   have:=HS.out
   rw [hke,mapTo_all] at this
   exact this)
  clear hke hxa hxd hxe hpv hav hnp hxl hj' hb'
  go_wp2_with fail
  exact HX.out _ _ rfl HFN.out _
end Go.Proofs.YtdfdmjcngkfciaaDoor

namespace Go.Proofs.YtdfdmjcngkfciaaDoor
open Go.RowKit
def renPh (top:Int) (p:Ph):Ph:=⟨wrap64 (top-p.dst),p.args.map fun z=>wrap64 (top-z)⟩
structure Y2 where
 j:Nat
 c6:Value
 tl:List Value
set_option maxHeartbeats 4000000 in
set_option maxRecDepth 100000 in
theorem rn2 {Q:Exit→Act→World→Prop} (w:World) (lab:Nat→Nat × Nat × Nat) (base v G n c:Nat) (xs:List Blk) (pv iv:Nat→Value) (av:Nat→Nat→Value) (top:Int) (b:Nat) (c0 c2 c7 c8:Value) (hQ:Hid (∀c (a:Act) t v w,Q (.panic c) (a.put (some t) v) w→Q (.panic c) a w)) (hb:b<xs.length) (hn:Hid (n=xs.length)) (hl2:Hid (xs[b].phis.length≤1000∧∀p∈xs[b].phis,p.args.length≤1000))
  (hexit:∀(c5 c6:Value) (tl:List Value) (w':World),tl.length=161→RnS w w' lab base v G n c (xs.set b ⟨xs[b].phis.map (renPh top),xs[b].instrs,xs[b].term⟩) pv iv av→Q (.exit 2) ⟨(c0::.pointer (some ⟨w.heap.size,0,none⟩)::c2::.int .i64 top::.int .i64 ((b:Nat):Int)::c5::c6::c7::c8::tl).toArray,[]⟩ w')
  (c6:Value) (tl:List Value) (wr:World) (hl:tl.length=161) (h:Hid (RnS w wr lab base v G n c xs pv iv av)) :
  Code.wp Tryd.prog (Code.loop rB2) Q ⟨(c0::.pointer (some ⟨w.heap.size,0,none⟩)::c2::.int .i64 top::.int .i64 ((b:Nat):Int)::.int .i64 ((0:Nat):Int)::c6::c7::c8::tl).toArray,[]⟩ wr:=by
 have HX:=hide hexit
 clear hexit
 obtain ⟨M,hM⟩:∃M,M=xs[b].phis.length:=⟨_,rfl⟩
 have HM:=hide hM
 refine wp_loop (fun a' wr=>∃x:Y2,a'=⟨(c0::.pointer (some ⟨w.heap.size,0,none⟩)::c2::.int .i64 top::.int .i64 ((b:Nat):Int)::.int .i64 ((x.j:Nat):Int)::x.c6::c7::c8::x.tl).toArray,[]⟩∧x.tl.length=161∧x.j≤M∧Hid (RnS w wr lab base v G n c (xs.set b ⟨mapTo (renPh top) x.j xs[b].phis,xs[b].instrs,xs[b].term⟩) pv iv av)) (fun a' _=>M-(intOf (a'.tmps.getD 5 undef)).toNat) ⟨⟨0,c6,tl⟩,rfl,hl,Nat.zero_le _,hide (by
  have e:xs.set b ⟨mapTo (renPh top) 0 xs[b].phis,xs[b].instrs,xs[b].term⟩=xs:=by
   rw [mapTo_zero]
   exact List.set_getElem_self hb
  rw [e]
  exact h.out)⟩ ?_
 clear h hl hM
 rintro a' wr ⟨⟨j,c6,tl⟩,rfl,hl,hj,HS⟩
 dsimp only at hl hj HS ⊢
 conv=>arg 2;whnf
 obtain ⟨f,rfl⟩:=spr9 tl hl
 clear hl
 have hb':b<(xs.set b ⟨mapTo (renPh top) j xs[b].phis,xs[b].instrs,xs[b].term⟩).length:=by simpa using hb
 have hxe:(xs.set b ⟨mapTo (renPh top) j xs[b].phis,xs[b].instrs,xs[b].term⟩)[b]=⟨mapTo (renPh top) j xs[b].phis,xs[b].instrs,xs[b].term⟩:=getElem_setSelf _ _ _ _
 have hbn:b<n:=by have:=hn.out;omega
 obtain ⟨ga,cp,hpv0⟩:=(HS.out.fn.phis b hb').form
 rw [hxe] at hpv0
 rw [show (⟨mapTo (renPh top) j xs[b].phis,xs[b].instrs,xs[b].term⟩:Blk).phis.length=M from (mapTo_len _ _).trans HM.out.symm] at hpv0
 have x1:wr.cell? ⟨w.heap.size,1,none⟩=some (.slice (some ⟨G,0,none⟩) n c):=Bx.cell HS.out.box rfl
 have x2:wr.cell? ⟨G,b*6,none⟩=some (.slice ga M cp):=by rw [←hpv0];exact (HS.out.fn.cells hb').1
 have hM1:M≤1000:=by have:=hl2.out;have:=HM.out;omega
 by_cases hlt:j<M
 ·have hltI:(j:Int)<M:=by omega
  have hjp:j<xs[b].phis.length:=by rw [←HM.out];exact hlt
  have hj':j<(xs.set b ⟨mapTo (renPh top) j xs[b].phis,xs[b].instrs,xs[b].term⟩)[b].phis.length:=by rw [hxe];show j<(mapTo _ _ _).length;rw [mapTo_len];exact hjp
  have hxp:(xs.set b ⟨mapTo (renPh top) j xs[b].phis,xs[b].instrs,xs[b].term⟩)[b].phis[j]=xs[b].phis[j]:=by simp only [hxe];exact mapTo_at hjp _
  obtain ⟨g,c2',hpv⟩:=(HS.out.fn.phis b hb').got (by omega)
  rw [show (xs.set b ⟨mapTo (renPh top) j xs[b].phis,xs[b].instrs,xs[b].term⟩)[b].phis.length=M by rw [hxe];exact (mapTo_len _ _).trans HM.out.symm] at hpv
  rw [hpv0] at hpv
  injection hpv with e1 _ e3
  subst e1 e3
  obtain ⟨hf9,hgl,hcell,hz⟩:=HS.out.fn.setDst (d:=wrap64 (top-xs[b].phis[j].dst)) hb' hj' hpv0
  rw [hxp] at hcell
  have hgb:base≤g:=((HS.out.fn.phis b hb').own.lt g (by rw [hpv0];rfl)).1
  have HF9:=hide (HS.out.put hf9 (by rw [hgl];simp) hgb)
  rw [hxp] at HF9
  have HS9:Hid (∀u,(wr.setCell ⟨g,j*2,none⟩ u).cell? ⟨w.heap.size,1,none⟩=some (.slice (some ⟨G,0,none⟩) n c)∧(wr.setCell ⟨g,j*2,none⟩ u).cell? ⟨G,b*6,none⟩=some (.slice (some ⟨g,0,none⟩) M cp)):=hide (fun u=>by
   have l1:=HS.out.fr w.heap.size (Nat.le_refl _)
   have l2:=HS.out.fn.blks.lab G rfl
   have n1:w.heap.size≠g:=fun e=>by rw [e,hgl] at l1;simp at l1
   have n2:G≠g:=fun e=>by rw [e,hgl] at l2;simp at l2
   exact ⟨(cell_of (Below.heap_setCell _ _ _ _ n1)).trans x1,(cell_of (Below.heap_setCell _ _ _ _ n2)).trans x2⟩)
  have HPL:Hid (xs[b].phis[j].args.length≤1000):=hide (hl2.out.2 _ (List.getElem_mem hjp))
  have HYE:Hid (((xs.set b ⟨mapTo (renPh top) j xs[b].phis,xs[b].instrs,xs[b].term⟩)).set b ((xs.set b ⟨mapTo (renPh top) j xs[b].phis,xs[b].instrs,xs[b].term⟩)[b].setPhi j ⟨wrap64 (top-xs[b].phis[j].dst),xs[b].phis[j].args⟩)=(xs.set b ⟨(mapTo (renPh top) j xs[b].phis).set j ⟨wrap64 (top-xs[b].phis[j].dst),xs[b].phis[j].args⟩,xs[b].instrs,xs[b].term⟩)):=hide (by rw [hxe,List.set_set];rfl)
  rw [HYE.out] at HF9
  have HZE:Hid (((mapTo (renPh top) j xs[b].phis).set j ⟨wrap64 (top-xs[b].phis[j].dst),xs[b].phis[j].args⟩).set j ⟨wrap64 (top-xs[b].phis[j].dst),xs[b].phis[j].args.map fun z=>wrap64 (top-z)⟩=mapTo (renPh top) (j+1) xs[b].phis):=hide (by rw [List.set_set];exact mapTo_set hjp)
  have HQL:Hid (j<((mapTo (renPh top) j xs[b].phis).set j ⟨wrap64 (top-xs[b].phis[j].dst),xs[b].phis[j].args⟩).length∧(mapTo (renPh top) j xs[b].phis).length=xs[b].phis.length):=hide ⟨by rw [List.length_set,mapTo_len];exact hjp,mapTo_len _ _⟩
  have HDT:Hid (∃d,xs[b].phis[j].dst=d):=hide ⟨_,rfl⟩
  clear hf9 hxe hpv0 hgl hj' hb' hxp HYE
  generalize xs[b].phis[j].dst=d at *
  generalize xs[b].phis[j].args=args at *
  go_wp2_with fail
  refine wp_region_held_drew (S:=(fun w'=>w'.cell? ⟨w.heap.size,1,none⟩=some (.slice (some ⟨G,0,none⟩) n c)∧w'.cell? ⟨G,b*6,none⟩=some (.slice (some ⟨g,0,none⟩) M cp))) (by kernel_rfl) (by (try dsimp only);go_keep) (fun hHeld=>?_)
  refine tkQ 0 rfl (v:=?_) (fun _ _ _ h=>hQ.out _ _ _ _ _ h) ?_
  simp only [Act.put,xA,xB,xD,xE,xF]
  refine tkQ 1 rfl (v:=?_) (fun _ _ _ h=>hQ.out _ _ _ _ _ h) ?_
  simp only [Act.put,xA,xB,xC,xD,xE,xF]
  refine tkQ 2 rfl (v:=?_) (fun _ _ _ h=>hQ.out _ _ _ _ _ h) ?_
  simp only [Act.put,xA,xB,xC,xD,xE,xF]
  refine tkQ 3 rfl (v:=?_) (fun _ _ _ h=>hQ.out _ _ _ _ _ h) ?_
  simp only [Act.put,xA,xB,xC,xD,xE,xF]
  refine tkQ 4 rfl (v:=?_) (fun _ _ _ h=>hQ.out _ _ _ _ _ h) ?_
  simp only [Act.put,xA,xB,xC,xD,xE,xF]
  refine tkQ 5 rfl (v:=?_) (fun _ _ _ h=>hQ.out _ _ _ _ _ h) ?_
  simp only [Act.put,xA,xB,xC,xD,xE,xF]
  refine tkQ 6 rfl (v:=?_) (fun _ _ _ h=>hQ.out _ _ _ _ _ h) ?_
  simp only [Act.put,xA,xB,xC,xD,xE,xF]
  refine tkQ 7 rfl (v:=?_) (fun _ _ _ h=>hQ.out _ _ _ _ _ h) ?_
  simp only [Act.put,xA,xB,xC,xD,xE,xF]
  refine tkQ 8 rfl (v:=?_) (fun _ _ _ h=>hQ.out _ _ _ _ _ h) ?_
  simp only [Act.put,xA,xB,xC,xD,xE,xF]
  refine tkQ 9 rfl (v:=?_) (fun _ _ _ h=>hQ.out _ _ _ _ _ h) ?_
  simp only [Act.put,xA,xB,xC,xD,xE,xF]
  refine tkQ 10 rfl (v:=?_) (fun _ _ _ h=>hQ.out _ _ _ _ _ h) ?_
  simp only [Act.put,xA,xB,xC,xD,xE,xF]
  refine tkQ 11 rfl (v:=?_) (fun _ _ _ h=>hQ.out _ _ _ _ _ h) ?_
  simp only [Act.put,xA,xB,xC,xD,xE,xF]
  refine tkQ 12 rfl (v:=?_) (fun _ _ _ h=>hQ.out _ _ _ _ _ h) ?_
  simp only [Act.put,xA,xB,xC,xD,xE,xF]
  refine tkQ 13 rfl (v:=?_) (fun _ _ _ h=>hQ.out _ _ _ _ _ h) ?_
  simp only [Act.put,xA,xB,xC,xD,xE,xF]
  refine tkQ 14 rfl (v:=?_) (fun _ _ _ h=>hQ.out _ _ _ _ _ h) ?_
  simp only [Act.put,xA,xB,xC,xD,xE,xF]
  refine tkQ 15 rfl (v:=?_) (fun _ _ _ h=>hQ.out _ _ _ _ _ h) ?_
  simp only [Act.put,xA,xB,xC,xD,xE,xF]
  refine tkQ 16 rfl (v:=?_) (fun _ _ _ h=>hQ.out _ _ _ _ _ h) ?_
  simp only [Act.put,xA,xB,xC,xD,xE,xF]
  refine wpAnyH_ready (rs:=[17]) (by kernel_rfl) (by simp) ?_
  refine AllReadyH.cons rfl (fun K hK=>?_) AllReadyH.nil
  go_simp
  refine hK.out _ _ (by first | with_reducible exact hHeld | ((try dsimp only);go_keep)) (fun hHeld=>?_)
  clear hK
  try simp only [Act.put,xA,xB,xC,xD,xE,xF]
  refine tkQ 18 rfl (v:=?_) (fun _ _ _ h=>hQ.out _ _ _ _ _ h) ?_
  simp only [Act.put,xA,xB,xC,xD,xE,xF]
  refine tkQ 19 rfl (v:=?_) (fun _ _ _ h=>hQ.out _ _ _ _ _ h) ?_
  simp only [Act.put,xA,xB,xC,xD,xE,xF]
  refine tkQ 20 rfl (v:=?_) (fun _ _ _ h=>hQ.out _ _ _ _ _ h) ?_
  simp only [Act.put,xA,xB,xC,xD,xE,xF]
  refine wpAnyH_ready (rs:=[21]) (by kernel_rfl) (by simp) ?_
  refine AllReadyH.cons rfl (fun K hK=>?_) AllReadyH.nil
  go_simp
  refine hK.out _ _ (HS9.out _) (fun hHeld=>?_)
  clear hK
  try simp only [Act.put,xA,xB,xC,xD,xE,xF]
  refine wpAnyH_done (by kernel_rfl) ?_ _
  clear hHeld x1 x2 hcell hz HS9
  have HF10:=hide HF9.out.drew
  clear HF9
  rw [show IntKind.i64.wrap (top-d)=wrap64 (top-d) from IntWalk.i64_left _]
  go_wp2_with fail
  have hbx:b<((xs.set b ⟨(mapTo (renPh top) j xs[b].phis).set j ⟨wrap64 (top-d),args⟩,xs[b].instrs,xs[b].term⟩)).length:=by simpa using hb
  have hxe:((xs.set b ⟨(mapTo (renPh top) j xs[b].phis).set j ⟨wrap64 (top-d),args⟩,xs[b].instrs,xs[b].term⟩))[b]=⟨(mapTo (renPh top) j xs[b].phis).set j ⟨wrap64 (top-d),args⟩,xs[b].instrs,xs[b].term⟩:=getElem_setSelf _ _ _ _
  refine rn3 w lab base v G n c ((xs.set b ⟨(mapTo (renPh top) j xs[b].phis).set j ⟨wrap64 (top-d),args⟩,xs[b].instrs,xs[b].term⟩)) pv iv av top b j _ _ _ _ (by exact hide (fun c a t v w h=>hQ.out c a t v w h)) hbx (by rw [hxe];exact HQL.out.1) (hide (by rw [List.length_set];exact hn.out)) (hide ⟨by rw [hxe];show (List.set _ _ _).length≤1000;rw [List.length_set,HQL.out.2];exact hl2.out.1,by simp only [hxe,getElem_setSelf];exact HPL.out⟩) ?_ _ _ (by rfl) (by exact HF10)
  intro tl w' hl hfin c6
  obtain ⟨f,rfl⟩:=spr9 tl hl
  clear hl
  have HFN:=hide hfin
  clear hfin HF10
  go_wp2_with fail
  refine ⟨⟨⟨j+1,_,_⟩,rfl,rfl,(by show j+1≤M;omega),hide ?_⟩,by simp [intOf];omega⟩
  have hfin:=HFN.out
  rw [List.set_set] at hfin
  have hjx:j<((xs.set b ⟨(mapTo (renPh top) j xs[b].phis).set j ⟨wrap64 (top-d),args⟩,xs[b].instrs,xs[b].term⟩))[b].phis.length:=by rw [hxe];exact HQL.out.1
  have e2:(((xs.set b ⟨(mapTo (renPh top) j xs[b].phis).set j ⟨wrap64 (top-d),args⟩,xs[b].instrs,xs[b].term⟩))[b].setPhi j ⟨(((xs.set b ⟨(mapTo (renPh top) j xs[b].phis).set j ⟨wrap64 (top-d),args⟩,xs[b].instrs,xs[b].term⟩))[b].phis[j]).dst,(((xs.set b ⟨(mapTo (renPh top) j xs[b].phis).set j ⟨wrap64 (top-d),args⟩,xs[b].instrs,xs[b].term⟩))[b].phis[j]).args.map fun z=>wrap64 (top-z)⟩)=⟨mapTo (renPh top) (j+1) xs[b].phis,xs[b].instrs,xs[b].term⟩:=by
   rw [←HZE.out]
   simp only [hxe,getElem_setSelf,Blk.setPhi]
  rw [e2] at hfin
  exact hfin
 ·have hltI:¬(j:Int)<M:=by omega
  have hje:j=xs[b].phis.length:=by rw [←HM.out];omega
  have HFN:Hid (RnS w wr lab base v G n c (xs.set b ⟨xs[b].phis.map (renPh top),xs[b].instrs,xs[b].term⟩) pv iv av):=hide (by
   have:=HS.out
   rw [hje,mapTo_all] at this
   exact this)
  clear hje hxe hpv0 hb'
  go_wp2_with fail
  exact HX.out _ _ _ _ rfl HFN.out
end Go.Proofs.YtdfdmjcngkfciaaDoor
