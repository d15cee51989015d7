import Derived.Test.YtdfdmjcngkfciaaDoorDRb
import Derived.Test.YtdfdmjcngkfciaaDoorPure
import Derived.Test.YtdfdmjcngkfciaaDoorDR3
namespace Go.Proofs.YtdfdmjcngkfciaaDoor
open Go.RowKit
structure Y4 where
 j:Nat
 c8:Value
 tl:List Value
def IBx (w:World) (g:Nat) (x:Ins):Prop:=Bx w g #[.int .i64 x.op,.int .i64 x.dst,.int .i64 x.a,.int .i64 x.b,.int .i64 x.imm] 68
theorem IBx.cells {w:World} {g:Nat} {x:Ins} (h:IBx w g x):w.cell? ⟨g,0,none⟩=some (.int .i64 x.op)∧w.cell? ⟨g,1,none⟩=some (.int .i64 x.dst)∧w.cell? ⟨g,2,none⟩=some (.int .i64 x.a)∧w.cell? ⟨g,3,none⟩=some (.int .i64 x.b)∧w.cell? ⟨g,4,none⟩=some (.int .i64 x.imm):=⟨Bx.cell h rfl,Bx.cell h rfl,Bx.cell h rfl,Bx.cell h rfl,Bx.cell h rfl⟩
theorem IBx.set1 {w:World} {g:Nat} {x:Ins} (h:IBx w g x) (d:Int):IBx (w.setCell ⟨g,1,none⟩ (.int .i64 d)) g ⟨x.op,d,x.a,x.b,x.imm⟩:=by
 have:=Bx.set h 1 (.int .i64 d)
 simpa [IBx] using this
theorem IBx.set2 {w:World} {g:Nat} {x:Ins} (h:IBx w g x) (d:Int):IBx (w.setCell ⟨g,2,none⟩ (.int .i64 d)) g ⟨x.op,x.dst,d,x.b,x.imm⟩:=by
 have:=Bx.set h 2 (.int .i64 d)
 simpa [IBx] using this
theorem IBx.set3 {w:World} {g:Nat} {x:Ins} (h:IBx w g x) (d:Int):IBx (w.setCell ⟨g,3,none⟩ (.int .i64 d)) g ⟨x.op,x.dst,x.a,d,x.imm⟩:=by
 have:=Bx.set h 3 (.int .i64 d)
 simpa [IBx] using this
set_option maxHeartbeats 4000000 in
set_option maxRecDepth 100000 in
theorem rn4 {Q:Exit→Act→World→Prop} (w:World) (lab:Nat→Nat × Nat × Nat) (base v G n c:Nat) (xs:List Blk) (pv iv:Nat→Value) (av:Nat→Nat→Value) (top:Int) (b:Nat) (c0 c2 c5 c6:Value) (hQ:Hid (∀c (a:Act) t v w,Q (.panic c) (a.put (some t) v) w→Q (.panic c) a w)) (hb:b<xs.length) (hn:Hid (n=xs.length)) (hl2:Hid (xs[b].instrs.length≤1000))
  (hexit:∀(c7 c8:Value) (tl:List Value) (w':World),tl.length=161→RnS w w' lab base v G n c (xs.set b ⟨xs[b].phis,xs[b].instrs.map (renI top),xs[b].term⟩) pv iv av→Q (.exit 6) ⟨(c0::.pointer (some ⟨w.heap.size,0,none⟩)::c2::.int .i64 top::.int .i64 ((b:Nat):Int)::c5::c6::c7::c8::tl).toArray,[]⟩ w')
  (c8:Value) (tl:List Value) (wr:World) (hl:tl.length=161) (h:Hid (RnS w wr lab base v G n c xs pv iv av)) :
  Code.wp Tryd.prog (Code.loop rB4) Q ⟨(c0::.pointer (some ⟨w.heap.size,0,none⟩)::c2::.int .i64 top::.int .i64 ((b:Nat):Int)::c5::c6::.int .i64 ((0:Nat):Int)::c8::tl).toArray,[]⟩ wr:=by
 have HX:=hide hexit
 clear hexit
 obtain ⟨M,hM⟩:∃M,M=xs[b].instrs.length:=⟨_,rfl⟩
 have HM:=hide hM
 refine wp_loop (fun a' wr=>∃x:Y4,a'=⟨(c0::.pointer (some ⟨w.heap.size,0,none⟩)::c2::.int .i64 top::.int .i64 ((b:Nat):Int)::c5::c6::.int .i64 ((x.j:Nat):Int)::x.c8::x.tl).toArray,[]⟩∧x.tl.length=161∧x.j≤M∧Hid (RnS w wr lab base v G n c (xs.set b ⟨xs[b].phis,mapTo (renI top) x.j xs[b].instrs,xs[b].term⟩) pv iv av)) (fun a' _=>M-(intOf (a'.tmps.getD 7 undef)).toNat) ⟨⟨0,c8,tl⟩,rfl,hl,Nat.zero_le _,hide (by
  have e:xs.set b ⟨xs[b].phis,mapTo (renI top) 0 xs[b].instrs,xs[b].term⟩=xs:=by
   rw [mapTo_zero]
   exact List.set_getElem_self hb
  rw [e]
  exact h.out)⟩ ?_
 clear h hl hM
 rintro a' wr ⟨⟨j,c8,tl⟩,rfl,hl,hj,HS⟩
 dsimp only at hl hj HS ⊢
 conv=>arg 2;whnf
 obtain ⟨f,rfl⟩:=spr9 tl hl
 clear hl
 have hb':b<(xs.set b ⟨xs[b].phis,mapTo (renI top) j xs[b].instrs,xs[b].term⟩).length:=by simpa using hb
 have hxe:(xs.set b ⟨xs[b].phis,mapTo (renI top) j xs[b].instrs,xs[b].term⟩)[b]=⟨xs[b].phis,mapTo (renI top) j xs[b].instrs,xs[b].term⟩:=getElem_setSelf _ _ _ _
 have hbn:b<n:=by have:=hn.out;omega
 have hel:(xs.set b ⟨xs[b].phis,mapTo (renI top) j xs[b].instrs,xs[b].term⟩)[b].instrs.length=M:=by rw [hxe];exact (mapTo_len _ _).trans HM.out.symm
 obtain ⟨ga,cp,hpv0⟩:=(HS.out.fn.ins b hb').form
 rw [hel] at hpv0
 have x1:wr.cell? ⟨w.heap.size,1,none⟩=some (.slice (some ⟨G,0,none⟩) n c):=Bx.cell HS.out.box rfl
 have x2:wr.cell? ⟨G,b*6+1,none⟩=some (.slice ga M cp):=by rw [←hpv0];exact (HS.out.fn.cells hb').2.1
 have hM1:M≤1000:=by have:=hl2.out;have:=HM.out;omega
 by_cases hlt:j<M
 ·have hltI:(j:Int)<M:=by omega
  have hjp:j<xs[b].instrs.length:=by rw [←HM.out];exact hlt
  have hj':j<(xs.set b ⟨xs[b].phis,mapTo (renI top) j xs[b].instrs,xs[b].term⟩)[b].instrs.length:=by omega
  have hxp:(xs.set b ⟨xs[b].phis,mapTo (renI top) j xs[b].instrs,xs[b].term⟩)[b].instrs[j]=xs[b].instrs[j]:=by simp only [hxe];exact mapTo_at hjp _
  obtain ⟨g,c2',hpv⟩:=(HS.out.fn.ins b hb').got (by omega)
  rw [hel,hpv0] at hpv
  injection hpv with e1 _ e3
  subst e1 e3
  have HSI:Hid (∀W,RnS w W lab base v G n c (xs.set b ⟨xs[b].phis,mapTo (renI top) j xs[b].instrs,xs[b].term⟩) pv iv av→FnL (laid5 W g (j*5) (renI top xs[b].instrs[j])) lab base (.slice (some ⟨G,0,none⟩) n c) (xs.set b ⟨xs[b].phis,mapTo (renI top) (j+1) xs[b].instrs,xs[b].term⟩) pv iv av∧lab g=(3,b,0)∧InsAt W g (j*5) xs[b].instrs[j]∧(∀q,W.frozen? ⟨g,q,none⟩=false)∧base≤g):=hide (fun W hW=>by
   obtain ⟨h1,h2,h3,h4⟩:=hW.fn.setIns (x:=renI top xs[b].instrs[j]) hb' hj' hpv0
   rw [hxp] at h3
   rw [List.set_set,hxe] at h1
   simp only [mapTo_set hjp] at h1
   exact ⟨h1,h2,h3,h4,((hW.fn.ins b hb').own.lt g (by rw [hpv0];rfl)).1⟩)
  obtain ⟨-,-,⟨i0,i1,i2,i3,i4⟩,-,-⟩:=HSI.out wr HS.out
  have HCX:Hid (∀W,RnS w W lab base v G n c (xs.set b ⟨xs[b].phis,mapTo (renI top) j xs[b].instrs,xs[b].term⟩) pv iv av→W.cell? ⟨w.heap.size,1,none⟩=some (.slice (some ⟨G,0,none⟩) n c)∧W.cell? ⟨G,b*6+1,none⟩=some (.slice (some ⟨g,0,none⟩) M cp)):=hide (fun W hW=>⟨Bx.cell hW.box rfl,by rw [←hpv0];exact (hW.fn.cells hb').2.1⟩)
  clear hxe hpv0 hel hj' hb' hxp
  generalize xs[b].instrs[j]=X at *
  go_wp2_with fail
  have HR0:=hide (HS.out.alloc (.cells #[.int .i64 X.op,.int .i64 X.dst,.int .i64 X.a,.int .i64 X.b,.int .i64 X.imm] 68))
  have HI0:Hid (IBx (wr.alloc (.cells #[.int .i64 X.op,.int .i64 X.dst,.int .i64 X.a,.int .i64 X.b,.int .i64 X.imm] 68)) wr.heap.size X):=hide (Bx.new _ _ _)
  have HIB:Hid (w.heap.size+2≤wr.heap.size):=hide HS.out.res.lt
  clear HS x1 x2 i0 i1 i2 i3 i4
  generalize wr.alloc (.cells #[.int .i64 X.op,.int .i64 X.dst,.int .i64 X.a,.int .i64 X.b,.int .i64 X.imm] 68)=wq at *
  generalize wr.heap.size=ib at *
  refine (usedD X.op wq).mono ?_
  rintro e wq0 ⟨rfl,hwq⟩
  subst hwq
  go_upto_if 115 with fail
  go_cut [] from 93 to 145 (fun wz=>Hid (RnS w wz lab base v G n c (xs.set b ⟨xs[b].phis,mapTo (renI top) j xs[b].instrs,xs[b].term⟩) pv iv av)∧Hid (IBx wz ib ⟨X.op,(if dB X.op=true then wrap64 (top-X.dst) else X.dst),X.a,X.b,X.imm⟩))
  case first =>
   obtain ⟨b0,b1,b2,b3,b4⟩:=IBx.cells HI0.out
   have bz:=Bx.thaw HI0.out
   cases hd:dB X.op with
   | false =>
    go_wp2_with fail
    go_meet
    try rw [if_neg (show ¬dB X.op=true by rw [hd];simp)]
    exact ⟨HR0,HI0⟩
   | true =>
    go_wp2_with fail
    go_meet
    rw [if_pos hd]
    refine ⟨hide (HR0.out.putx HIB.out),hide ?_⟩
    exact IBx.set1 HI0.out _
  case rest =>
   obtain ⟨HR1,HI1⟩:=hcut
   clear HR0 HI0
   obtain ⟨b0,b1,b2,b3,b4⟩:=IBx.cells HI1.out
   go_wp2_with fail
   refine (usedA X.op wc).mono ?_
   rintro e wq1 ⟨rfl,hwq⟩
   subst hwq
   clear b0 b1 b2 b3 b4
   go_upto_if 123 with fail
   go_cut [] from 93 to 145 (fun wz=>Hid (RnS w wz lab base v G n c (xs.set b ⟨xs[b].phis,mapTo (renI top) j xs[b].instrs,xs[b].term⟩) pv iv av)∧Hid (IBx wz ib ⟨X.op,(if dB X.op=true then wrap64 (top-X.dst) else X.dst),(if aB X.op=true then wrap64 (top-X.a) else X.a),X.b,X.imm⟩))
   case first =>
    obtain ⟨b0,b1,b2,b3,b4⟩:=IBx.cells HI1.out
    have bz:=Bx.thaw HI1.out
    cases hd:aB X.op with
    | false =>
     go_wp2_with fail
     go_meet
     try rw [if_neg (show ¬aB X.op=true by rw [hd];simp)]
     exact ⟨HR1,HI1⟩
    | true =>
     go_wp2_with fail
     go_meet
     rw [if_pos hd]
     refine ⟨hide (HR1.out.putx HIB.out),hide ?_⟩
     exact IBx.set2 HI1.out _
   case rest =>
    obtain ⟨HR2,HI2⟩:=hcut
    clear HR1 HI1
    obtain ⟨b0,b1,b2,b3,b4⟩:=IBx.cells HI2.out
    go_wp2_with fail
    refine (usedB X.op wc).mono ?_
    rintro e wq2 ⟨rfl,hwq⟩
    subst hwq
    clear b0 b1 b2 b3 b4
    go_upto_if 131 with fail
    go_cut [] from 93 to 145 (fun wz=>Hid (RnS w wz lab base v G n c (xs.set b ⟨xs[b].phis,mapTo (renI top) j xs[b].instrs,xs[b].term⟩) pv iv av)∧Hid (IBx wz ib ⟨X.op,(if dB X.op=true then wrap64 (top-X.dst) else X.dst),(if aB X.op=true then wrap64 (top-X.a) else X.a),(if bB X.op=true then wrap64 (top-X.b) else X.b),X.imm⟩))
    case first =>
     obtain ⟨b0,b1,b2,b3,b4⟩:=IBx.cells HI2.out
     have bz:=Bx.thaw HI2.out
     cases hd:bB X.op with
     | false =>
      go_wp2_with fail
      go_meet
      try rw [if_neg (show ¬bB X.op=true by rw [hd];simp)]
      exact ⟨HR2,HI2⟩
     | true =>
      go_wp2_with fail
      go_meet
      rw [if_pos hd]
      refine ⟨hide (HR2.out.putx HIB.out),hide ?_⟩
      exact IBx.set3 HI2.out _
    case rest =>
     obtain ⟨HR3,HI3⟩:=hcut
     clear HR2 HI2
     have HXR:Hid (renI top X=⟨X.op,(if dB X.op=true then wrap64 (top-X.dst) else X.dst),(if aB X.op=true then wrap64 (top-X.a) else X.a),(if bB X.op=true then wrap64 (top-X.b) else X.b),X.imm⟩):=hide rfl
     rw [←HXR.out] at HI3
     obtain ⟨b0,b1,b2,b3,b4⟩:=IBx.cells HI3.out
     obtain ⟨hf9,hgl,⟨i0,i1,i2,i3,i4⟩,hz,hgb⟩:=HSI.out wc HR3.out
     obtain ⟨x1,x2⟩:=HCX.out wc HR3.out
     have HF9:=hide hf9
     have hig:ib≠g:=fun e=>by have:=HR3.out.fr ib (by have:=HIB.out;omega);rw [e,hgl] at this;simp at this
     have HGN:Hid (w.heap.size≠g∧G≠g):=hide ⟨fun e=>by have:=HR3.out.fr w.heap.size (Nat.le_refl _);rw [e,hgl] at this;simp at this,fun e=>by have:=HR3.out.fn.blks.lab G rfl;rw [e,hgl] at this;simp at this⟩
     have HGL:=hide hgl
     generalize renI top X=R at *
     have HS9:Hid ((((((wc.setCell ⟨g,j*5,none⟩ (.int .i64 R.op)).setCell ⟨g,j*5+1,none⟩ (.int .i64 R.dst)).setCell ⟨g,j*5+2,none⟩ (.int .i64 R.a)).setCell ⟨g,j*5+3,none⟩ (.int .i64 R.b)).setCell ⟨g,j*5+4,none⟩ (.int .i64 R.imm)).drew.cell? ⟨w.heap.size,1,none⟩=some (.slice (some ⟨G,0,none⟩) n c)∧(((((wc.setCell ⟨g,j*5,none⟩ (.int .i64 R.op)).setCell ⟨g,j*5+1,none⟩ (.int .i64 R.dst)).setCell ⟨g,j*5+2,none⟩ (.int .i64 R.a)).setCell ⟨g,j*5+3,none⟩ (.int .i64 R.b)).setCell ⟨g,j*5+4,none⟩ (.int .i64 R.imm)).drew.cell? ⟨G,b*6+1,none⟩=some (.slice (some ⟨g,0,none⟩) M cp)∧(((((wc.setCell ⟨g,j*5,none⟩ (.int .i64 R.op)).setCell ⟨g,j*5+1,none⟩ (.int .i64 R.dst)).setCell ⟨g,j*5+2,none⟩ (.int .i64 R.a)).setCell ⟨g,j*5+3,none⟩ (.int .i64 R.b)).setCell ⟨g,j*5+4,none⟩ (.int .i64 R.imm)).drew.cell? ⟨ib,0,none⟩=some (.int .i64 R.op)∧(((((wc.setCell ⟨g,j*5,none⟩ (.int .i64 R.op)).setCell ⟨g,j*5+1,none⟩ (.int .i64 R.dst)).setCell ⟨g,j*5+2,none⟩ (.int .i64 R.a)).setCell ⟨g,j*5+3,none⟩ (.int .i64 R.b)).setCell ⟨g,j*5+4,none⟩ (.int .i64 R.imm)).drew.cell? ⟨ib,1,none⟩=some (.int .i64 R.dst)∧(((((wc.setCell ⟨g,j*5,none⟩ (.int .i64 R.op)).setCell ⟨g,j*5+1,none⟩ (.int .i64 R.dst)).setCell ⟨g,j*5+2,none⟩ (.int .i64 R.a)).setCell ⟨g,j*5+3,none⟩ (.int .i64 R.b)).setCell ⟨g,j*5+4,none⟩ (.int .i64 R.imm)).drew.cell? ⟨ib,2,none⟩=some (.int .i64 R.a)∧(((((wc.setCell ⟨g,j*5,none⟩ (.int .i64 R.op)).setCell ⟨g,j*5+1,none⟩ (.int .i64 R.dst)).setCell ⟨g,j*5+2,none⟩ (.int .i64 R.a)).setCell ⟨g,j*5+3,none⟩ (.int .i64 R.b)).setCell ⟨g,j*5+4,none⟩ (.int .i64 R.imm)).drew.cell? ⟨ib,3,none⟩=some (.int .i64 R.b)∧(((((wc.setCell ⟨g,j*5,none⟩ (.int .i64 R.op)).setCell ⟨g,j*5+1,none⟩ (.int .i64 R.dst)).setCell ⟨g,j*5+2,none⟩ (.int .i64 R.a)).setCell ⟨g,j*5+3,none⟩ (.int .i64 R.b)).setCell ⟨g,j*5+4,none⟩ (.int .i64 R.imm)).drew.cell? ⟨ib,4,none⟩=some (.int .i64 R.imm)):=hide (by
      have kk:∀q,q≠g→(((((wc.setCell ⟨g,j*5,none⟩ (.int .i64 R.op)).setCell ⟨g,j*5+1,none⟩ (.int .i64 R.dst)).setCell ⟨g,j*5+2,none⟩ (.int .i64 R.a)).setCell ⟨g,j*5+3,none⟩ (.int .i64 R.b)).setCell ⟨g,j*5+4,none⟩ (.int .i64 R.imm)).drew.heap[q]?=wc.heap[q]?:=fun q hq=>by
       show (((((wc.setCell ⟨g,j*5,none⟩ (.int .i64 R.op)).setCell ⟨g,j*5+1,none⟩ (.int .i64 R.dst)).setCell ⟨g,j*5+2,none⟩ (.int .i64 R.a)).setCell ⟨g,j*5+3,none⟩ (.int .i64 R.b)).setCell ⟨g,j*5+4,none⟩ (.int .i64 R.imm)).heap[q]?=wc.heap[q]?
       rw [Below.heap_setCell _ _ _ _ hq,Below.heap_setCell _ _ _ _ hq,Below.heap_setCell _ _ _ _ hq,Below.heap_setCell _ _ _ _ hq,Below.heap_setCell _ _ _ _ hq]
      have n1:=kk _ HGN.out.1
      have n2:=kk _ HGN.out.2
      have n3:=kk _ hig
      exact ⟨(cell_of n1).trans x1,(cell_of n2).trans x2,(cell_of n3).trans b0,(cell_of n3).trans b1,(cell_of n3).trans b2,(cell_of n3).trans b3,(cell_of n3).trans b4⟩)
     have HFIN:Hid (RnS w (laid5 wc g (j*5) R) lab base v G n c (xs.set b ⟨xs[b].phis,mapTo (renI top) (j+1) xs[b].instrs,xs[b].term⟩) pv iv av):=hide (HR3.out.step HF9.out (fun q _ e=>by
      have hq:q≠g:=fun e2=>by rw [e2,HGL.out] at e;simp at e
      unfold laid5
      rw [Below.heap_setCell _ _ _ _ hq,Below.heap_setCell _ _ _ _ hq,Below.heap_setCell _ _ _ _ hq,Below.heap_setCell _ _ _ _ hq,Below.heap_setCell _ _ _ _ hq]) (((((((Below.refl base wc).setCell (p:=⟨g,j*5,none⟩) hgb _).setCell (p:=⟨g,j*5+1,none⟩) hgb _).setCell (p:=⟨g,j*5+2,none⟩) hgb _).setCell (p:=⟨g,j*5+3,none⟩) hgb _).setCell (p:=⟨g,j*5+4,none⟩) hgb _)))
     unfold laid5 at HFIN
     clear hf9 hgl hgb HF9
     go_wp2_with fail
     refine wp_region_held_drew (S:=(fun w'=>w'.cell? ⟨w.heap.size,1,none⟩=some (.slice (some ⟨G,0,none⟩) n c)∧w'.cell? ⟨G,b*6+1,none⟩=some (.slice (some ⟨g,0,none⟩) M cp)∧w'.cell? ⟨ib,0,none⟩=some (.int .i64 R.op)∧w'.cell? ⟨ib,1,none⟩=some (.int .i64 R.dst)∧w'.cell? ⟨ib,2,none⟩=some (.int .i64 R.a)∧w'.cell? ⟨ib,3,none⟩=some (.int .i64 R.b)∧w'.cell? ⟨ib,4,none⟩=some (.int .i64 R.imm))) (by kernel_rfl) (by (try dsimp only);go_keep) (fun hHeld=>?_)
     refine tkQ 0 rfl (v:=?_) (fun _ _ _ h=>hQ.out _ _ _ _ _ h) ?_
     simp only [Act.put,xA,xB,xD,xE,xF]
     refine tkQ 1 rfl (v:=?_) (fun _ _ _ h=>hQ.out _ _ _ _ _ h) ?_
     simp only [Act.put,xA,xB,xC,xD,xE,xF]
     refine tkQ 2 rfl (v:=?_) (fun _ _ _ h=>hQ.out _ _ _ _ _ h) ?_
     simp only [Act.put,xA,xB,xC,xD,xE,xF]
     refine tkQ 3 rfl (v:=?_) (fun _ _ _ h=>hQ.out _ _ _ _ _ h) ?_
     simp only [Act.put,xA,xB,xC,xD,xE,xF]
     refine tkQ 4 rfl (v:=?_) (fun _ _ _ h=>hQ.out _ _ _ _ _ h) ?_
     simp only [Act.put,xA,xB,xC,xD,xE,xF]
     refine tkQ 5 rfl (v:=?_) (fun _ _ _ h=>hQ.out _ _ _ _ _ h) ?_
     simp only [Act.put,xA,xB,xC,xD,xE,xF]
     refine tkQ 6 rfl (v:=?_) (fun _ _ _ h=>hQ.out _ _ _ _ _ h) ?_
     simp only [Act.put,xA,xB,xC,xD,xE,xF]
     refine wpAnyH_ready (rs:=[7]) (by kernel_rfl) (by simp) ?_
     refine AllReadyH.cons rfl (fun K hK=>?_) AllReadyH.nil
     go_simp
     refine hK.out _ _ (by first | with_reducible exact hHeld | ((try dsimp only);go_keep)) (fun hHeld=>?_)
     clear hK
     try simp only [Act.put,xA,xB,xC,xD,xE,xF]
     refine tkQ 8 rfl (v:=?_) (fun _ _ _ h=>hQ.out _ _ _ _ _ h) ?_
     simp only [Act.put,xA,xB,xC,xD,xE,xF]
     refine wpAnyH_ready (rs:=[9]) (by kernel_rfl) (by simp) ?_
     refine AllReadyH.cons rfl (fun K hK=>?_) AllReadyH.nil
     go_simp
     refine hK.out _ _ HS9.out (fun hHeld=>?_)
     clear hK
     try simp only [Act.put,xA,xB,xC,xD,xE,xF]
     refine wpAnyH_done (by kernel_rfl) ?_ _
     clear hHeld
     go_wp2_with fail
     refine ⟨⟨⟨j+1,_,_⟩,rfl,rfl,(by show j+1≤M;omega),hide ?_⟩,by simp [intOf];omega⟩
     exact HFIN.out.drew
 ·have hltI:¬(j:Int)<M:=by omega
  have hje:j=xs[b].instrs.length:=by rw [←HM.out];omega
  have HFN:Hid (RnS w wr lab base v G n c (xs.set b ⟨xs[b].phis,xs[b].instrs.map (renI top),xs[b].term⟩) pv iv av):=hide (by
   have:=HS.out
   rw [hje,mapTo_all] at this
   exact this)
  clear hje hxe hpv0 hb' hel
  go_wp2_with fail
  exact HX.out _ _ _ _ rfl HFN.out
end Go.Proofs.YtdfdmjcngkfciaaDoor

namespace Go.Proofs.YtdfdmjcngkfciaaDoor
open Go.RowKit
structure Y1 where
 b:Nat
 c5:Value
 c6:Value
 c7:Value
 c8:Value
 tl:List Value
set_option maxHeartbeats 4000000 in
set_option maxRecDepth 100000 in
theorem rn1 {Q:Exit→Act→World→Prop} (w:World) (lab:Nat→Nat × Nat × Nat) (base v G n c:Nat) (xs:List Blk) (pv iv:Nat→Value) (av:Nat→Nat→Value) (top:Int) (c0 c2:Value) (hQ:Hid (∀c (a:Act) t v w,Q (.panic c) (a.put (some t) v) w→Q (.panic c) a w)) (hn:Hid (n=xs.length)) (hn2:n≤11) (hl2:Hid (∀x∈xs,x.phis.length≤1000∧(∀p∈x.phis,p.args.length≤1000)∧x.instrs.length≤1000))
  (hexit:∀(c5 c6 c7 c8:Value) (tl:List Value) (w':World),tl.length=161→RnS w w' lab base v G n c (xs.map (renB top)) pv iv av→Q (.exit 0) ⟨(c0::.pointer (some ⟨w.heap.size,0,none⟩)::c2::.int .i64 top::.int .i64 ((n:Nat):Int)::c5::c6::c7::c8::tl).toArray,[]⟩ w')
  (c5 c6 c7 c8:Value) (tl:List Value) (wr:World) (hl:tl.length=161) (h:Hid (RnS w wr lab base v G n c xs pv iv av)) :
  Code.wp Tryd.prog (Code.loop rB1) Q ⟨(c0::.pointer (some ⟨w.heap.size,0,none⟩)::c2::.int .i64 top::.int .i64 ((0:Nat):Int)::c5::c6::c7::c8::tl).toArray,[]⟩ wr:=by
 have HX:=hide hexit
 clear hexit
 refine wp_loop (fun a' wr=>∃x:Y1,a'=⟨(c0::.pointer (some ⟨w.heap.size,0,none⟩)::c2::.int .i64 top::.int .i64 ((x.b:Nat):Int)::x.c5::x.c6::x.c7::x.c8::x.tl).toArray,[]⟩∧x.tl.length=161∧x.b≤n∧Hid (RnS w wr lab base v G n c (mapTo (renB top) x.b xs) pv iv av)) (fun a' _=>n-(intOf (a'.tmps.getD 4 undef)).toNat) ⟨⟨0,c5,c6,c7,c8,tl⟩,rfl,hl,Nat.zero_le _,hide (by rw [mapTo_zero];exact h.out)⟩ ?_
 clear h hl
 rintro a' wr ⟨⟨b,c5,c6,c7,c8,tl⟩,rfl,hl,hb,HS⟩
 dsimp only at hl hb HS ⊢
 conv=>arg 2;whnf
 obtain ⟨f,rfl⟩:=spr9 tl hl
 clear hl
 have x1:wr.cell? ⟨w.heap.size,1,none⟩=some (.slice (some ⟨G,0,none⟩) n c):=Bx.cell HS.out.box rfl
 by_cases hlt:b<n
 ·have hltI:(b:Int)<n:=by omega
  have hbx:b<xs.length:=by have:=hn.out;omega
  have hbm:b<(mapTo (renB top) b xs).length:=by rw [mapTo_len];exact hbx
  have hxe:(mapTo (renB top) b xs)[b]=xs[b]:=mapTo_at hbx hbm
  have HL2:=hide (hl2.out _ (List.getElem_mem hbx))
  go_wp2_with fail
  refine rn2 w lab base v G n c (mapTo (renB top) b xs) pv iv av top b _ _ _ _ (by exact hide (fun c a t v w h=>hQ.out c a t v w h)) hbm (hide (by rw [mapTo_len];exact hn.out)) (hide (by rw [hxe];exact ⟨HL2.out.1,HL2.out.2.1⟩)) ?_ _ _ _ (by rfl) HS
  intro c5 c6 tl w1 hl hfin
  obtain ⟨f,rfl⟩:=spr9 tl hl
  clear hl HS x1
  rw [hxe] at hfin
  have HS1:=hide hfin
  clear hfin
  go_wp2_with fail
  have hb1:b<((mapTo (renB top) b xs).set b ⟨xs[b].phis.map (renPh top),xs[b].instrs,xs[b].term⟩).length:=by rw [List.length_set];exact hbm
  have hx1:((mapTo (renB top) b xs).set b ⟨xs[b].phis.map (renPh top),xs[b].instrs,xs[b].term⟩)[b]=⟨xs[b].phis.map (renPh top),xs[b].instrs,xs[b].term⟩:=getElem_setSelf _ _ _ _
  refine rn4 w lab base v G n c ((mapTo (renB top) b xs).set b ⟨xs[b].phis.map (renPh top),xs[b].instrs,xs[b].term⟩) pv iv av top b _ _ _ _ (by exact hide (fun c a t v w h=>hQ.out c a t v w h)) hb1 (hide (by rw [List.length_set,mapTo_len];exact hn.out)) (hide (by rw [hx1];exact HL2.out.2.2)) ?_ _ _ _ (by rfl) HS1
  intro c7 c8 tl w2 hl hfin
  obtain ⟨f,rfl⟩:=spr9 tl hl
  clear hl HS1
  rw [hx1,List.set_set] at hfin
  have HS2:=hide hfin
  clear hfin
  have hb2:b<((mapTo (renB top) b xs).set b ⟨xs[b].phis.map (renPh top),xs[b].instrs.map (renI top),xs[b].term⟩).length:=by rw [List.length_set];exact hbm
  have hx2:((mapTo (renB top) b xs).set b ⟨xs[b].phis.map (renPh top),xs[b].instrs.map (renI top),xs[b].term⟩)[b]=⟨xs[b].phis.map (renPh top),xs[b].instrs.map (renI top),xs[b].term⟩:=getElem_setSelf _ _ _ _
  obtain ⟨-,-,t0,t1,-,-⟩:=HS2.out.fn.cells hb2
  rw [hx2] at t0 t1
  dsimp only at t0 t1
  have x1:w2.cell? ⟨w.heap.size,1,none⟩=some (.slice (some ⟨G,0,none⟩) n c):=Bx.cell HS2.out.box rfl
  have HNX:Hid ((mapTo (renB top) b xs).set b (renB top xs[b])=mapTo (renB top) (b+1) xs):=hide (mapTo_set hbx)
  obtain ⟨hf9,hgl,hz⟩:=HS2.out.fn.setTerA (d:=wrap64 (top-xs[b].term.a)) hb2
  rw [hx2,List.set_set] at hf9
  have hgb:base≤G:=(HS2.out.fn.blks.own.lt G rfl).1
  have HF9:=hide (HS2.out.put hf9 (by rw [hgl];simp) hgb)
  have HSB:Hid (∀u,(w2.setCell ⟨G,b*6+2+1,none⟩ u).cell? ⟨w.heap.size,1,none⟩=some (.slice (some ⟨G,0,none⟩) n c)):=hide (fun u=>by
   have l1:=HS2.out.fr w.heap.size (Nat.le_refl _)
   have n1:w.heap.size≠G:=fun e=>by rw [e,hgl] at l1;simp at l1
   exact (cell_of (Below.heap_setCell _ _ _ _ n1)).trans x1)
  by_cases hk:xs[b].term.kind=1
  ·have hkb:(xs[b].term.kind != 1)=false:=by simpa using hk
   have HFN:Hid (RnS w w2 lab base v G n c (mapTo (renB top) (b+1) xs) pv iv av):=hide (by
    have e:renB top xs[b]=⟨xs[b].phis.map (renPh top),xs[b].instrs.map (renI top),xs[b].term⟩:=by
     unfold renB renT
     rw [if_neg (fun h=>h hk)]
     rfl
    rw [←HNX.out,e]
    exact HS2.out)
   clear hk hf9 hx1 hx2 hxe hb1 hb2 hbm
   generalize xs[b].term.kind=kd at *
   go_wp2_with fail
   exact ⟨⟨⟨b+1,_,_,_,_,_⟩,⟨(by show (b:Int)+1=((b+1:Nat):Int);omega),rfl,rfl,rfl,rfl,rfl⟩,rfl,(by show b+1≤n;omega),HFN⟩,by simp [intOf];omega⟩
  ·have hkb:(xs[b].term.kind != 1)=true:=by simpa using hk
   have HFN:Hid (RnS w (w2.setCell ⟨G,b*6+3,none⟩ (.int .i64 (wrap64 (top-xs[b].term.a)))) lab base v G n c (mapTo (renB top) (b+1) xs) pv iv av):=hide (by
    have e:renB top xs[b]=⟨xs[b].phis.map (renPh top),xs[b].instrs.map (renI top),⟨xs[b].term.kind,wrap64 (top-xs[b].term.a),xs[b].term.to,xs[b].term.els⟩⟩:=by
     unfold renB renT
     rw [if_pos hk]
     rfl
    rw [←HNX.out,e]
    exact HF9.out)
   clear hk hf9 hx1 hx2 hxe hb1 hb2 hbm HF9
   generalize xs[b].term.kind=kd at *
   generalize xs[b].term.a=ta at *
   go_wp2_with fail
   refine wp_region_held_drew (S:=(fun w'=>w'.cell? ⟨w.heap.size,1,none⟩=some (.slice (some ⟨G,0,none⟩) n c))) (by kernel_rfl) (by (try dsimp only);go_keep) (fun hHeld=>?_)
   refine tkQ 0 rfl (v:=?_) (fun _ _ _ h=>hQ.out _ _ _ _ _ h) ?_
   simp only [Act.put,xA,xB,xD,xE,xF]
   refine tkQ 1 rfl (v:=?_) (fun _ _ _ h=>hQ.out _ _ _ _ _ h) ?_
   simp only [Act.put,xA,xB,xC,xD,xE,xF]
   refine tkQ 2 rfl (v:=?_) (fun _ _ _ h=>hQ.out _ _ _ _ _ h) ?_
   simp only [Act.put,xA,xB,xC,xD,xE,xF]
   refine tkQ 3 rfl (v:=?_) (fun _ _ _ h=>hQ.out _ _ _ _ _ h) ?_
   simp only [Act.put,xA,xB,xC,xD,xE,xF]
   refine tkQ 4 rfl (v:=?_) (fun _ _ _ h=>hQ.out _ _ _ _ _ h) ?_
   simp only [Act.put,xA,xB,xC,xD,xE,xF]
   refine tkQ 5 rfl (v:=?_) (fun _ _ _ h=>hQ.out _ _ _ _ _ h) ?_
   simp only [Act.put,xA,xB,xC,xD,xE,xF]
   refine tkQ 6 rfl (v:=?_) (fun _ _ _ h=>hQ.out _ _ _ _ _ h) ?_
   simp only [Act.put,xA,xB,xC,xD,xE,xF]
   refine tkQ 7 rfl (v:=?_) (fun _ _ _ h=>hQ.out _ _ _ _ _ h) ?_
   simp only [Act.put,xA,xB,xC,xD,xE,xF]
   refine tkQ 8 rfl (v:=?_) (fun _ _ _ h=>hQ.out _ _ _ _ _ h) ?_
   simp only [Act.put,xA,xB,xC,xD,xE,xF]
   refine tkQ 9 rfl (v:=?_) (fun _ _ _ h=>hQ.out _ _ _ _ _ h) ?_
   simp only [Act.put,xA,xB,xC,xD,xE,xF]
   refine wpAnyH_ready (rs:=[10]) (by kernel_rfl) (by simp) ?_
   refine AllReadyH.cons rfl (fun K hK=>?_) AllReadyH.nil
   go_simp
   refine hK.out _ _ (by first | with_reducible exact hHeld | ((try dsimp only);go_keep)) (fun hHeld=>?_)
   clear hK
   try simp only [Act.put,xA,xB,xC,xD,xE,xF]
   refine tkQ 11 rfl (v:=?_) (fun _ _ _ h=>hQ.out _ _ _ _ _ h) ?_
   simp only [Act.put,xA,xB,xC,xD,xE,xF]
   refine tkQ 12 rfl (v:=?_) (fun _ _ _ h=>hQ.out _ _ _ _ _ h) ?_
   simp only [Act.put,xA,xB,xC,xD,xE,xF]
   refine tkQ 13 rfl (v:=?_) (fun _ _ _ h=>hQ.out _ _ _ _ _ h) ?_
   simp only [Act.put,xA,xB,xC,xD,xE,xF]
   refine tkQ 14 rfl (v:=?_) (fun _ _ _ h=>hQ.out _ _ _ _ _ h) ?_
   simp only [Act.put,xA,xB,xC,xD,xE,xF]
   refine wpAnyH_ready (rs:=[15]) (by kernel_rfl) (by simp) ?_
   refine AllReadyH.cons rfl (fun K hK=>?_) AllReadyH.nil
   go_simp
   refine hK.out _ _ (HSB.out _) (fun hHeld=>?_)
   clear hK
   try simp only [Act.put,xA,xB,xC,xD,xE,xF]
   refine wpAnyH_done (by kernel_rfl) ?_ _
   clear hHeld
   go_wp2_with fail
   refine ⟨⟨⟨b+1,_,_,_,_,_⟩,rfl,rfl,(by show b+1≤n;omega),hide ?_⟩,by simp [intOf];omega⟩
   exact HFN.out.drew
 ·have hltI:¬(b:Int)<n:=by omega
  have hbe:b=n:=by omega
  subst hbe
  have HFN:Hid (RnS w wr lab base v G b c (xs.map (renB top)) pv iv av):=hide (by
   have:=HS.out
   rw [←mapTo_all,←hn.out]
   exact this)
  go_wp2_with fail
  exact HX.out _ _ _ _ _ _ rfl HFN.out
end Go.Proofs.YtdfdmjcngkfciaaDoor

namespace Go.Proofs.YtdfdmjcngkfciaaDoor
open Go.RowKit
set_option maxHeartbeats 4000000 in
set_option maxRecDepth 100000 in
theorem rename_any:RenC:=by
 intro v G n c xs lab base pv iv av w hF hn hbs hfr hn2 hv hsm
 have HS0:Hid (RnS w ((w.alloc (.cells #[.int .i64 (v:Int),.slice (some ⟨G,0,none⟩) n c] 25)).alloc (.cells #[.int .i64 0,.slice none 0 0] 25)) lab base v G n c xs pv iv av):=hide (by
  have k:SpL w ((w.alloc (.cells #[.int .i64 (v:Int),.slice (some ⟨G,0,none⟩) n c] 25)).alloc (.cells #[.int .i64 0,.slice none 0 0] 25)) lab lab base (fun _=>True):=((SpL.box _).trans (SpL.box _)).weak (fun _ _=>⟨trivial,trivial⟩)
  refine ⟨hF.out.sp k 0 (fun _ _ _ _ _=>trivial) (Or.inl (fun _ _=>trivial)),Below.alloc (Below.alloc (Below.refl _ _) hbs _) (by simp;omega) _,fun b hb _=>(Below.heap_alloc _ _ _ (by simp;omega)).trans (Below.heap_alloc _ _ _ hb),hfr.out,hbs,(Bx.new _ _ _).box _,?_⟩
  have:=Bx.new (w.alloc (.cells #[.int .i64 (v:Int),.slice (some ⟨G,0,none⟩) n c] 25)) #[.int .i64 0,.slice none 0 0] 25
  rwa [World.size_alloc] at this)
 clear hF
 go_enter Tryd.func50,Tryd.ntmps50
 have x0:((w.alloc (.cells #[.int .i64 (v:Int),.slice (some ⟨G,0,none⟩) n c] 25)).alloc (.cells #[.int .i64 0,.slice none 0 0] 25)).cell? ⟨w.heap.size,0,none⟩=some (.int .i64 (v:Int)):=Bx.cell HS0.out.box rfl
 go_wp2_with fail
 generalize (w.alloc (.cells #[.int .i64 (v:Int),.slice (some ⟨G,0,none⟩) n c] 25)).alloc (.cells #[.int .i64 0,.slice none 0 0] 25)=w0 at *
 refine rn1 w lab base v G n c xs pv iv av ((v:Int)-1) _ _ (by exact hide (fun c a t v w h=>h)) hn hn2 hsm ?_ _ _ _ _ _ _ (by rfl) HS0
 intro c5 c6 c7 c8 tl w1 hl hfin
 obtain ⟨f,rfl⟩:=spr9 tl hl
 clear hl HS0 x0
 have HF:=hide hfin
 clear hfin
 have f0:w1.cell? ⟨w.heap.size,0,none⟩=some (.int .i64 (v:Int)):=Bx.cell HF.out.box rfl
 have f1:w1.cell? ⟨w.heap.size,1,none⟩=some (.slice (some ⟨G,0,none⟩) n c):=Bx.cell HF.out.box rfl
 have r0:w1.cell? ⟨w.heap.size+1,0,none⟩=some (.int .i64 0):=Bx.cell HF.out.res rfl
 have r1:w1.cell? ⟨w.heap.size+1,1,none⟩=some (.slice none 0 0):=Bx.cell HF.out.res rfl
 have rz:=Bx.thaw HF.out.res
 go_wp2
 refine bodyPost_ret (v:=.agg #[.int .i64 (v:Int),.slice (some ⟨G,0,none⟩) n c]) (by simp [results,Tryd.results50,go_sem,r0,r1]) rfl ⟨rfl,?_,?_,?_,?_⟩
 ·exact HF.out.bel.trans (((Below.refl base w1).setCell (p:=⟨w.heap.size+1,0,none⟩) (Nat.le_succ_of_le hbs) _).setCell (p:=⟨w.heap.size+1,1,none⟩) (Nat.le_succ_of_le hbs) _)
 ·have hl:=HF.out.fr (w.heap.size+1) (Nat.le_succ _)
  have k1:SpL w1 ((w1.setCell ⟨w.heap.size+1,0,none⟩ (.int .i64 (v:Int))).setCell ⟨w.heap.size+1,1,none⟩ (.slice (some ⟨G,0,none⟩) n c)) lab lab base (fun b=>b≠w.heap.size+1):=((SpL.put _ _ _).trans (SpL.put _ _ _)).weak (fun _ hb=>⟨hb,hb⟩)
  have nb:∀b,(lab b).1≠0→b≠w.heap.size+1:=fun b h1 e=>h1 (by rw [e,hl])
  exact HF.out.fn.sp k1 0 (fun b h1 _ _ _=>nb b h1) (Or.inl (fun b e=>nb b (by rcases e with e | e<;>rw [e]<;>simp)))
 ·intro b hb hl
  have nb:b≠w.heap.size+1:=by omega
  exact ((Below.heap_setCell _ _ _ _ nb).trans (Below.heap_setCell _ _ _ _ nb)).trans (HF.out.kept b hb hl)
 ·intro b hb
  have hsz:=HF.out.res.lt
  exact HF.out.fr b (by simp [World.setCell] at hb;omega)
end Go.Proofs.YtdfdmjcngkfciaaDoor
