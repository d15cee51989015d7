import Derived.Test.YtkehcdfalcakmaaGreatDoorDRb
namespace Go.Proofs.YtkehcdfalcakmaaGreatDoor
set_option maxHeartbeats 4000000
set_option maxRecDepth 100000
open Go.RowKit
structure Y3 where
 k:Nat
 tl:List Value
theorem rn3{Q:Exit->Act->World->Prop}(w:World)(lab:Nat->Nat × Nat × Nat)(base v G n c:Nat)(xs:List Xf)(pv iv:Nat->Value)(av:Nat->Nat->Value)(top:Int)(b j:Nat)(c0 c2 c7 c8:Value)(hQ:Hid (∀c (a:Act) t v w,Q (.panic c) (a.put (some t) v) w->Q (.panic c) a w))(hb:b<xs.length)(hj:j<xs[b].phis.length)(hn:Hid (n=xs.length))(hl2:Hid (xs[b].phis.length<=1000/\xs[b].phis[j].args.length<=1000))
 (hexit:∀(tl:List Value)(w':World),tl.length=161->JY w w' lab base v G n c (xs.set b (xs[b].setPhi j ⟨xs[b].phis[j].dst,xs[b].phis[j].args.map (fun z=>wrap64 (top-z))⟩)) pv iv av->∀c6,Q (.exit 4) ⟨(c0::.pointer (some ⟨w.heap.size,0,none⟩)::c2::.int .i64 top::.int .i64 ((b:Nat):Int)::.int .i64 ((j:Nat):Int)::c6::c7::c8::tl).toArray,[]⟩ w')
 (tl:List Value) (wr:World) (hl:tl.length=161) (h:Hid (JY w wr lab base v G n c xs pv iv av)) :
 Code.wp Tryz.prog (Code.loop rB3) Q ⟨(c0::.pointer (some ⟨w.heap.size,0,none⟩)::c2::.int .i64 top::.int .i64 ((b:Nat):Int)::.int .i64 ((j:Nat):Int)::.int .i64 ((0:Nat):Int)::c7::c8::tl).toArray,[]⟩ wr:=by
 have HX:=Xa hexit;clear hexit;obtain⟨M,hM⟩:∃M,M=xs[b].phis[j].args.length:=⟨_,rfl⟩;have HM:=Xa hM;refine wp_loop (fun a' wr=>∃x:Y3,a'=⟨(c0::.pointer (some ⟨w.heap.size,0,none⟩)::c2::.int .i64 top::.int .i64 ((b:Nat):Int)::.int .i64 ((j:Nat):Int)::.int .i64 ((x.k:Nat):Int)::c7::c8::x.tl).toArray,[]⟩/\x.tl.length=161/\x.k<=M/\Hid (JY w wr lab base v G n c (xs.set b (xs[b].setPhi j ⟨xs[b].phis[j].dst,Xm (fun z=>wrap64 (top-z)) x.k xs[b].phis[j].args⟩)) pv iv av)) (fun a' _=>M-(intOf (a'.tmps.getD 6 undef)).toNat) ⟨⟨0,tl⟩,rfl,hl,Nat.zero_le _,Xa (by
  have e:xs.set b (xs[b].setPhi j ⟨xs[b].phis[j].dst,Xm (fun z=>wrap64 (top-z)) 0 xs[b].phis[j].args⟩)=xs:=by
   rw[Kg];show xs.set b ⟨xs[b].phis.set j xs[b].phis[j],xs[b].instrs,xs[b].term⟩=xs;rw[List.set_getElem_self];exact List.set_getElem_self hb
  rw[e];exact h.out)⟩ ?_
 clear h hl hM;rintro a' wr ⟨⟨k,tl⟩,rfl,hl,hk,HS⟩;dsimp only at hl hk HS |-
 conv=>arg 2;whnf
 obtain⟨f,rfl⟩:=Zbr tl hl;clear hl;have hxl:(xs.set b (xs[b].setPhi j ⟨xs[b].phis[j].dst,Xm (fun z=>wrap64 (top-z)) k xs[b].phis[j].args⟩)).length=n:=by rw[List.length_set];exact hn.symm
 have hb':b<(xs.set b (xs[b].setPhi j ⟨xs[b].phis[j].dst,Xm (fun z=>wrap64 (top-z)) k xs[b].phis[j].args⟩)).length:=by simpa using hb
 have hxe:(xs.set b (xs[b].setPhi j ⟨xs[b].phis[j].dst,Xm (fun z=>wrap64 (top-z)) k xs[b].phis[j].args⟩))[b]=xs[b].setPhi j ⟨xs[b].phis[j].dst,Xm (fun z=>wrap64 (top-z)) k xs[b].phis[j].args⟩:=Xe _ _ _ _;have hj':j<(xs.set b (xs[b].setPhi j ⟨xs[b].phis[j].dst,Xm (fun z=>wrap64 (top-z)) k xs[b].phis[j].args⟩))[b].phis.length:=by rw[hxe];simpa [Xf.setPhi]using hj
 have hxa:((xs.set b (xs[b].setPhi j ⟨xs[b].phis[j].dst,Xm (fun z=>wrap64 (top-z)) k xs[b].phis[j].args⟩))[b].phis[j]).args=Xm (fun z=>wrap64 (top-z)) k xs[b].phis[j].args:=by simp only[Xf.setPhi,Xe]
 have hxd:((xs.set b (xs[b].setPhi j ⟨xs[b].phis[j].dst,Xm (fun z=>wrap64 (top-z)) k xs[b].phis[j].args⟩))[b].phis[j]).dst=xs[b].phis[j].dst:=by simp only[Xf.setPhi,Xe]
 have hbn:b<n:=by have:=hn.out;omega
 obtain⟨g,cp,hpv⟩:=(HS.fn.phis b hb').got (by omega);obtain⟨np,hnp⟩:∃np,np=(xs.set b (xs[b].setPhi j ⟨xs[b].phis[j].dst,Xm (fun z=>wrap64 (top-z)) k xs[b].phis[j].args⟩))[b].phis.length:=⟨_,rfl⟩;rw[<-hnp]at hpv;have hjn:j<np:=by omega
 obtain⟨aa,ac,hav⟩:=(HS.fn.args b hb' j hj').form;rw[hxa,Yc,<-HM.out]at hav;have x1:wr.cell? ⟨w.heap.size,1,none⟩=some (.slice (some ⟨G,0,none⟩) n c):=Bx.cell HS.box rfl;have x2:wr.cell? ⟨G,b*6,none⟩=some (.slice (some ⟨g,0,none⟩) np cp):=by rw[<-hpv];exact(HS.fn.cells hb').1
 have x3:wr.cell? ⟨g,j*2+1,none⟩=some (.slice aa M ac):=by rw[<-hav];exact(HS.fn.phiCells hb' hj' hpv).2
 have hM1:M<=1000:=by have:=hl2.out;have:=HM.out;omega
 by_cases hlt:k<M
 ·have hltI:(k:Int)<M:=by omega
  have hka:k<xs[b].phis[j].args.length:=by rw[<-HM.out];exact hlt
  obtain⟨g2,c2',hav2⟩:=(HS.fn.args b hb' j hj').got (by rw[hxa,Yc];omega);rw[hxa,Yc,<-HM.out]at hav2;rw[hav]at hav2;injection hav2 with e1 _ e3;subst e1 e3;obtain⟨hf9,hgl,hcell,hz⟩:=HS.fn.setArg (k:=k) (d:=wrap64 (top-xs[b].phis[j].args[k])) hb' hj' (by rw[hxa,Yc];exact hka) hav;have hck:wr.cell? ⟨g2,k,none⟩=some (.int .i64 xs[b].phis[j].args[k]):=by
   rw[hcell];congr 2;simp only[hxa];exact Un hka _
  have hgb:base<=g2:=by
   have:=(HS.fn.args b hb' j hj').own.lt g2 (by rw[hav];rfl);exact this.1
  have HF9:=Xa (HS.put hf9 (by rw[hgl];simp) hgb);have HXE:Hid ((xs.set b (xs[b].setPhi j ⟨xs[b].phis[j].dst,Xm (fun z=>wrap64 (top-z)) k xs[b].phis[j].args⟩)).set b ((xs.set b (xs[b].setPhi j ⟨xs[b].phis[j].dst,Xm (fun z=>wrap64 (top-z)) k xs[b].phis[j].args⟩))[b].setPhi j ⟨((xs.set b (xs[b].setPhi j ⟨xs[b].phis[j].dst,Xm (fun z=>wrap64 (top-z)) k xs[b].phis[j].args⟩))[b].phis[j]).dst,((xs.set b (xs[b].setPhi j ⟨xs[b].phis[j].dst,Xm (fun z=>wrap64 (top-z)) k xs[b].phis[j].args⟩))[b].phis[j]).args.set k (wrap64 (top-xs[b].phis[j].args[k]))⟩)=(xs.set b (xs[b].setPhi j ⟨xs[b].phis[j].dst,Xm (fun z=>wrap64 (top-z)) (k+1) xs[b].phis[j].args⟩))):=Xa (by
   rw[hxd,hxa,hxe,List.set_set,<-Tc hka];simp[Xf.setPhi])
  rw[HXE.out]at HF9;have HS9:Hid (∀u,(wr.setCell ⟨g2,k,none⟩ u).cell? ⟨w.heap.size,1,none⟩=some (.slice (some ⟨G,0,none⟩) n c)/\(wr.setCell ⟨g2,k,none⟩ u).cell? ⟨G,b*6,none⟩=some (.slice (some ⟨g,0,none⟩) np cp)/\(wr.setCell ⟨g2,k,none⟩ u).cell? ⟨g,j*2+1,none⟩=some (.slice (some ⟨g2,0,none⟩) M ac)):=Xa (fun u=>by
   have l1:=HS.fr w.heap.size (Nat.le_refl _);have l2:=HS.fn.blks.lab G rfl;have l3:=(HS.fn.phis b hb').lab g (by rw[hpv];rfl);have n1:w.heap.size≠g2:=fun e=>by rw[e,hgl]at l1;simp at l1
   have n2:G≠g2:=fun e=>by rw[e,hgl]at l2;simp at l2
   have n3:g≠g2:=fun e=>by rw[e,hgl]at l3;simp at l3
   exact⟨(Xc (Below.heap_setCell _ _ _ _ n1)).trans x1,(Xc (Below.heap_setCell _ _ _ _ n2)).trans x2,(Xc (Below.heap_setCell _ _ _ _ n3)).trans x3⟩)
  clear hf9 hcell hxa hxd hxe hpv hav hnp hgl hxl HXE hj' hb';generalize xs[b].phis[j].args[k]=z at *
  go_wp2_with fail
  refine YZ (fun w'=>w'.cell? ⟨w.heap.size,1,none⟩=some (.slice (some ⟨G,0,none⟩) n c)/\w'.cell? ⟨G,b*6,none⟩=some (.slice (some ⟨g,0,none⟩) np cp)/\w'.cell? ⟨g,j*2+1,none⟩=some (.slice (some ⟨g2,0,none⟩) M ac)) (fun hHeld=>?_);refine XI 0 ?_;refine XI 1 ?_;refine XI 2 ?_;refine XI 3 ?_;refine XI 4 ?_;refine XI 5 ?_;refine XI 6 ?_;refine XI 7 ?_;refine XI 8 ?_;refine XI 9 ?_;refine XI 10 ?_;refine XI 11 ?_;refine XI 12 ?_;refine XI 13 ?_;refine XI 14 ?_;refine XI 15 ?_;refine XI 16 ?_;refine XI 17 ?_;refine XI 18 ?_;refine XI 19 ?_;refine XI 20 ?_;refine XI 21 ?_;refine XI 22 ?_;refine XI 23 ?_;refine Xw 24 (fun K hK=>?_);go_simp;refine hK _ _ (by first | with_reducible exact hHeld | ((try dsimp only);go_keep)) (fun hHeld=>?_);clear hK;refine XI 25 ?_;refine XI 26 ?_;refine Xw 27 (fun K hK=>?_);go_simp;refine hK _ _ (HS9.out _) (fun hHeld=>?_);clear hK;refine Y7 ?_;clear hHeld
  go_wp2_with fail
  refine⟨⟨⟨k+1,_⟩,rfl,rfl,(by show k+1<=M;omega),Xa ?_⟩,by simp[intOf];omega⟩;exact HF9.drew
 ·have hltI:¬(k:Int)<M:=by omega
  have hke:k=xs[b].phis[j].args.length:=by rw[<-HM.out];omega
  have HFN:Hid (JY w wr lab base v G n c (xs.set b (xs[b].setPhi j ⟨xs[b].phis[j].dst,xs[b].phis[j].args.map (fun z=>wrap64 (top-z))⟩)) pv iv av):=Xa (by
   have:=HS.out;rw[hke,KY]at this;exact this)
  clear hke hxa hxd hxe hpv hav hnp hxl hj' hb'
  go_wp2_with fail
  exact HX.out _ _ rfl HFN.out _
def XX(top:Int)(p:Ph):Ph:=⟨wrap64 (top-p.dst),p.args.map fun z=>wrap64 (top-z)⟩
structure Y2 where
 j:Nat
 c6:Value
 tl:List Value
theorem rn2{Q:Exit->Act->World->Prop}(w:World)(lab:Nat->Nat × Nat × Nat)(base v G n c:Nat)(xs:List Xf)(pv iv:Nat->Value)(av:Nat->Nat->Value)(top:Int)(b:Nat)(c0 c2 c7 c8:Value)(hQ:Hid (∀c (a:Act) t v w,Q (.panic c) (a.put (some t) v) w->Q (.panic c) a w))(hb:b<xs.length)(hn:Hid (n=xs.length))(hl2:Hid (xs[b].phis.length<=1000/\∀p∈xs[b].phis,p.args.length<=1000))
 (hexit:∀(c5 c6:Value)(tl:List Value)(w':World),tl.length=161->JY w w' lab base v G n c (xs.set b ⟨xs[b].phis.map (XX top),xs[b].instrs,xs[b].term⟩) pv iv av->Q (.exit 2) ⟨(c0::.pointer (some ⟨w.heap.size,0,none⟩)::c2::.int .i64 top::.int .i64 ((b:Nat):Int)::c5::c6::c7::c8::tl).toArray,[]⟩ w')
 (c6:Value) (tl:List Value) (wr:World) (hl:tl.length=161) (h:Hid (JY w wr lab base v G n c xs pv iv av)) :
 Code.wp Tryz.prog (Code.loop rB2) Q ⟨(c0::.pointer (some ⟨w.heap.size,0,none⟩)::c2::.int .i64 top::.int .i64 ((b:Nat):Int)::.int .i64 ((0:Nat):Int)::c6::c7::c8::tl).toArray,[]⟩ wr:=by
 have HX:=Xa hexit;clear hexit;obtain⟨M,hM⟩:∃M,M=xs[b].phis.length:=⟨_,rfl⟩;have HM:=Xa hM;refine wp_loop (fun a' wr=>∃x:Y2,a'=⟨(c0::.pointer (some ⟨w.heap.size,0,none⟩)::c2::.int .i64 top::.int .i64 ((b:Nat):Int)::.int .i64 ((x.j:Nat):Int)::x.c6::c7::c8::x.tl).toArray,[]⟩/\x.tl.length=161/\x.j<=M/\Hid (JY w wr lab base v G n c (xs.set b ⟨Xm (XX top) x.j xs[b].phis,xs[b].instrs,xs[b].term⟩) pv iv av)) (fun a' _=>M-(intOf (a'.tmps.getD 5 undef)).toNat) ⟨⟨0,c6,tl⟩,rfl,hl,Nat.zero_le _,Xa (by
  have e:xs.set b ⟨Xm (XX top) 0 xs[b].phis,xs[b].instrs,xs[b].term⟩=xs:=by
   rw[Kg];exact List.set_getElem_self hb
  rw[e];exact h.out)⟩ ?_
 clear h hl hM;rintro a' wr ⟨⟨j,c6,tl⟩,rfl,hl,hj,HS⟩;dsimp only at hl hj HS |-
 conv=>arg 2;whnf
 obtain⟨f,rfl⟩:=Zbr tl hl;clear hl;have hb':b<(xs.set b ⟨Xm (XX top) j xs[b].phis,xs[b].instrs,xs[b].term⟩).length:=by simpa using hb
 have hxe:(xs.set b ⟨Xm (XX top) j xs[b].phis,xs[b].instrs,xs[b].term⟩)[b]=⟨Xm (XX top) j xs[b].phis,xs[b].instrs,xs[b].term⟩:=Xe _ _ _ _;have hbn:b<n:=by have:=hn.out;omega
 obtain⟨ga,cp,hpv0⟩:=(HS.fn.phis b hb').form;rw[hxe]at hpv0;rw[show(⟨Xm (XX top) j xs[b].phis,xs[b].instrs,xs[b].term⟩:Xf).phis.length=M from(Yc _ _).trans HM.symm]at hpv0;have x1:wr.cell? ⟨w.heap.size,1,none⟩=some (.slice (some ⟨G,0,none⟩) n c):=Bx.cell HS.box rfl;have x2:wr.cell? ⟨G,b*6,none⟩=some (.slice ga M cp):=by rw[<-hpv0];exact(HS.fn.cells hb').1
 have hM1:M<=1000:=by have:=hl2.out;have:=HM.out;omega
 by_cases hlt:j<M
 ·have hltI:(j:Int)<M:=by omega
  have hjp:j<xs[b].phis.length:=by rw[<-HM.out];exact hlt
  have hj':j<(xs.set b ⟨Xm (XX top) j xs[b].phis,xs[b].instrs,xs[b].term⟩)[b].phis.length:=by rw[hxe];show j<(Xm _ _ _).length;rw[Yc];exact hjp
  have hxp:(xs.set b ⟨Xm (XX top) j xs[b].phis,xs[b].instrs,xs[b].term⟩)[b].phis[j]=xs[b].phis[j]:=by simp only[hxe];exact Un hjp _
  obtain⟨g,c2',hpv⟩:=(HS.fn.phis b hb').got (by omega);rw[show(xs.set b ⟨Xm (XX top) j xs[b].phis,xs[b].instrs,xs[b].term⟩)[b].phis.length=M by rw[hxe];exact(Yc _ _).trans HM.symm]at hpv;rw[hpv0]at hpv;injection hpv with e1 _ e3;subst e1 e3;obtain⟨hf9,hgl,hcell,hz⟩:=HS.fn.setDst (d:=wrap64 (top-xs[b].phis[j].dst)) hb' hj' hpv0;rw[hxp]at hcell;have hgb:base<=g:=((HS.fn.phis b hb').own.lt g (by rw[hpv0];rfl)).1;have HF9:=Xa (HS.put hf9 (by rw[hgl];simp) hgb);rw[hxp]at HF9;have HS9:Hid (∀u,(wr.setCell ⟨g,j*2,none⟩ u).cell? ⟨w.heap.size,1,none⟩=some (.slice (some ⟨G,0,none⟩) n c)/\(wr.setCell ⟨g,j*2,none⟩ u).cell? ⟨G,b*6,none⟩=some (.slice (some ⟨g,0,none⟩) M cp)):=Xa (fun u=>by
   have l1:=HS.fr w.heap.size (Nat.le_refl _);have l2:=HS.fn.blks.lab G rfl;have n1:w.heap.size≠g:=fun e=>by rw[e,hgl]at l1;simp at l1
   have n2:G≠g:=fun e=>by rw[e,hgl]at l2;simp at l2
   exact⟨(Xc (Below.heap_setCell _ _ _ _ n1)).trans x1,(Xc (Below.heap_setCell _ _ _ _ n2)).trans x2⟩)
  have HPL:Hid (xs[b].phis[j].args.length<=1000):=Xa (hl2.2 _ (List.getElem_mem hjp));have HYE:Hid (((xs.set b ⟨Xm (XX top) j xs[b].phis,xs[b].instrs,xs[b].term⟩)).set b ((xs.set b ⟨Xm (XX top) j xs[b].phis,xs[b].instrs,xs[b].term⟩)[b].setPhi j ⟨wrap64 (top-xs[b].phis[j].dst),xs[b].phis[j].args⟩)=(xs.set b ⟨(Xm (XX top) j xs[b].phis).set j ⟨wrap64 (top-xs[b].phis[j].dst),xs[b].phis[j].args⟩,xs[b].instrs,xs[b].term⟩)):=Xa (by rw[hxe,List.set_set];rfl);rw[HYE.out]at HF9;have HZE:Hid (((Xm (XX top) j xs[b].phis).set j ⟨wrap64 (top-xs[b].phis[j].dst),xs[b].phis[j].args⟩).set j ⟨wrap64 (top-xs[b].phis[j].dst),xs[b].phis[j].args.map fun z=>wrap64 (top-z)⟩=Xm (XX top) (j+1) xs[b].phis):=Xa (by rw[List.set_set];exact Tc hjp);have HQL:Hid (j<((Xm (XX top) j xs[b].phis).set j ⟨wrap64 (top-xs[b].phis[j].dst),xs[b].phis[j].args⟩).length/\(Xm (XX top) j xs[b].phis).length=xs[b].phis.length):=Xa ⟨by rw[List.length_set,Yc];exact hjp,Yc _ _⟩;have HDT:Hid (∃d,xs[b].phis[j].dst=d):=Xa ⟨_,rfl⟩;clear hf9 hxe hpv0 hgl hj' hb' hxp HYE;generalize xs[b].phis[j].dst=d at *;generalize xs[b].phis[j].args=args at *
  go_wp2_with fail
  refine YZ (fun w'=>w'.cell? ⟨w.heap.size,1,none⟩=some (.slice (some ⟨G,0,none⟩) n c)/\w'.cell? ⟨G,b*6,none⟩=some (.slice (some ⟨g,0,none⟩) M cp)) (fun hHeld=>?_);refine XI 0 ?_;refine XI 1 ?_;refine XI 2 ?_;refine XI 3 ?_;refine XI 4 ?_;refine XI 5 ?_;refine XI 6 ?_;refine XI 7 ?_;refine XI 8 ?_;refine XI 9 ?_;refine XI 10 ?_;refine XI 11 ?_;refine XI 12 ?_;refine XI 13 ?_;refine XI 14 ?_;refine XI 15 ?_;refine XI 16 ?_;refine Xw 17 (fun K hK=>?_);go_simp;refine hK _ _ (by first | with_reducible exact hHeld | ((try dsimp only);go_keep)) (fun hHeld=>?_);clear hK;refine XI 18 ?_;refine XI 19 ?_;refine XI 20 ?_;refine Xw 21 (fun K hK=>?_);go_simp;refine hK _ _ (HS9.out _) (fun hHeld=>?_);clear hK;refine Y7 ?_;clear hHeld x1 x2 hcell hz HS9;have HF10:=Xa HF9.drew;clear HF9;rw[show IntKind.i64.wrap (top-d)=wrap64 (top-d) from IntWalk.i64_left _]
  go_wp2_with fail
  have hbx:b<((xs.set b ⟨(Xm (XX top) j xs[b].phis).set j ⟨wrap64 (top-d),args⟩,xs[b].instrs,xs[b].term⟩)).length:=by simpa using hb
  have hxe:((xs.set b ⟨(Xm (XX top) j xs[b].phis).set j ⟨wrap64 (top-d),args⟩,xs[b].instrs,xs[b].term⟩))[b]=⟨(Xm (XX top) j xs[b].phis).set j ⟨wrap64 (top-d),args⟩,xs[b].instrs,xs[b].term⟩:=Xe _ _ _ _;refine rn3 w lab base v G n c ((xs.set b ⟨(Xm (XX top) j xs[b].phis).set j ⟨wrap64 (top-d),args⟩,xs[b].instrs,xs[b].term⟩)) pv iv av top b j _ _ _ _ (by exact Xa (fun c a t v w h=>hQ.out c a t v w h)) hbx (by rw[hxe];exact HQL.1) (Xa (by rw[List.length_set];exact hn.out)) (Xa ⟨by rw[hxe];show(List.set _ _ _).length<=1000;rw[List.length_set,HQL.2];exact hl2.1,by simp only[hxe,Xe];exact HPL.out⟩) ?_ _ _ (by rfl) (by exact HF10);intro tl w' hl hfin c6;obtain⟨f,rfl⟩:=Zbr tl hl;clear hl;have HFN:=Xa hfin;clear hfin HF10
  go_wp2_with fail
  refine⟨⟨⟨j+1,_,_⟩,rfl,rfl,(by show j+1<=M;omega),Xa ?_⟩,by simp[intOf];omega⟩;have hfin:=HFN.out;rw[List.set_set]at hfin;have hjx:j<((xs.set b ⟨(Xm (XX top) j xs[b].phis).set j ⟨wrap64 (top-d),args⟩,xs[b].instrs,xs[b].term⟩))[b].phis.length:=by rw[hxe];exact HQL.1
  have e2:(((xs.set b ⟨(Xm (XX top) j xs[b].phis).set j ⟨wrap64 (top-d),args⟩,xs[b].instrs,xs[b].term⟩))[b].setPhi j ⟨(((xs.set b ⟨(Xm (XX top) j xs[b].phis).set j ⟨wrap64 (top-d),args⟩,xs[b].instrs,xs[b].term⟩))[b].phis[j]).dst,(((xs.set b ⟨(Xm (XX top) j xs[b].phis).set j ⟨wrap64 (top-d),args⟩,xs[b].instrs,xs[b].term⟩))[b].phis[j]).args.map fun z=>wrap64 (top-z)⟩)=⟨Xm (XX top) (j+1) xs[b].phis,xs[b].instrs,xs[b].term⟩:=by
   rw[<-HZE.out];simp only[hxe,Xe,Xf.setPhi]
  rw[e2]at hfin;exact hfin
 ·have hltI:¬(j:Int)<M:=by omega
  have hje:j=xs[b].phis.length:=by rw[<-HM.out];omega
  have HFN:Hid (JY w wr lab base v G n c (xs.set b ⟨xs[b].phis.map (XX top),xs[b].instrs,xs[b].term⟩) pv iv av):=Xa (by
   have:=HS.out;rw[hje,KY]at this;exact this)
  clear hje hxe hpv0 hb'
  go_wp2_with fail
  exact HX.out _ _ _ _ rfl HFN.out
structure Y4 where
 j:Nat
 c8:Value
 tl:List Value
def UH(w:World)(g:Nat)(x:Xz):Prop:=Bx w g #[.int .i64 x.op,.int .i64 x.dst,.int .i64 x.a,.int .i64 x.b,.int .i64 x.imm] 53
theorem UH.cells{w:World}{g:Nat}{x:Xz}(h:UH w g x):w.cell? ⟨g,0,none⟩=some (.int .i64 x.op)/\w.cell? ⟨g,1,none⟩=some (.int .i64 x.dst)/\w.cell? ⟨g,2,none⟩=some (.int .i64 x.a)/\w.cell? ⟨g,3,none⟩=some (.int .i64 x.b)/\w.cell? ⟨g,4,none⟩=some (.int .i64 x.imm):=⟨Bx.cell h rfl,Bx.cell h rfl,Bx.cell h rfl,Bx.cell h rfl,Bx.cell h rfl⟩
theorem UH.set1{w:World}{g:Nat}{x:Xz}(h:UH w g x)(d:Int):UH (w.setCell ⟨g,1,none⟩ (.int .i64 d)) g ⟨x.op,d,x.a,x.b,x.imm⟩:=by
 have:=Bx.set h 1 (.int .i64 d);simpa [UH]using this
theorem UH.set2{w:World}{g:Nat}{x:Xz}(h:UH w g x)(d:Int):UH (w.setCell ⟨g,2,none⟩ (.int .i64 d)) g ⟨x.op,x.dst,d,x.b,x.imm⟩:=by
 have:=Bx.set h 2 (.int .i64 d);simpa [UH]using this
theorem UH.set3{w:World}{g:Nat}{x:Xz}(h:UH w g x)(d:Int):UH (w.setCell ⟨g,3,none⟩ (.int .i64 d)) g ⟨x.op,x.dst,x.a,d,x.imm⟩:=by
 have:=Bx.set h 3 (.int .i64 d);simpa [UH]using this
theorem rn4{Q:Exit->Act->World->Prop}(w:World)(lab:Nat->Nat × Nat × Nat)(base v G n c:Nat)(xs:List Xf)(pv iv:Nat->Value)(av:Nat->Nat->Value)(top:Int)(b:Nat)(c0 c2 c5 c6:Value)(hQ:Hid (∀c (a:Act) t v w,Q (.panic c) (a.put (some t) v) w->Q (.panic c) a w))(hb:b<xs.length)(hn:Hid (n=xs.length))(hl2:Hid (xs[b].instrs.length<=1000))
 (hexit:∀(c7 c8:Value)(tl:List Value)(w':World),tl.length=161->JY w w' lab base v G n c (xs.set b ⟨xs[b].phis,xs[b].instrs.map (renI top),xs[b].term⟩) pv iv av->Q (.exit 6) ⟨(c0::.pointer (some ⟨w.heap.size,0,none⟩)::c2::.int .i64 top::.int .i64 ((b:Nat):Int)::c5::c6::c7::c8::tl).toArray,[]⟩ w')
 (c8:Value) (tl:List Value) (wr:World) (hl:tl.length=161) (h:Hid (JY w wr lab base v G n c xs pv iv av)) :
 Code.wp Tryz.prog (Code.loop rB4) Q ⟨(c0::.pointer (some ⟨w.heap.size,0,none⟩)::c2::.int .i64 top::.int .i64 ((b:Nat):Int)::c5::c6::.int .i64 ((0:Nat):Int)::c8::tl).toArray,[]⟩ wr:=by
 have HX:=Xa hexit;clear hexit;obtain⟨M,hM⟩:∃M,M=xs[b].instrs.length:=⟨_,rfl⟩;have HM:=Xa hM;refine wp_loop (fun a' wr=>∃x:Y4,a'=⟨(c0::.pointer (some ⟨w.heap.size,0,none⟩)::c2::.int .i64 top::.int .i64 ((b:Nat):Int)::c5::c6::.int .i64 ((x.j:Nat):Int)::x.c8::x.tl).toArray,[]⟩/\x.tl.length=161/\x.j<=M/\Hid (JY w wr lab base v G n c (xs.set b ⟨xs[b].phis,Xm (renI top) x.j xs[b].instrs,xs[b].term⟩) pv iv av)) (fun a' _=>M-(intOf (a'.tmps.getD 7 undef)).toNat) ⟨⟨0,c8,tl⟩,rfl,hl,Nat.zero_le _,Xa (by
  have e:xs.set b ⟨xs[b].phis,Xm (renI top) 0 xs[b].instrs,xs[b].term⟩=xs:=by
   rw[Kg];exact List.set_getElem_self hb
  rw[e];exact h.out)⟩ ?_
 clear h hl hM;rintro a' wr ⟨⟨j,c8,tl⟩,rfl,hl,hj,HS⟩;dsimp only at hl hj HS |-
 conv=>arg 2;whnf
 obtain⟨f,rfl⟩:=Zbr tl hl;clear hl;have hb':b<(xs.set b ⟨xs[b].phis,Xm (renI top) j xs[b].instrs,xs[b].term⟩).length:=by simpa using hb
 have hxe:(xs.set b ⟨xs[b].phis,Xm (renI top) j xs[b].instrs,xs[b].term⟩)[b]=⟨xs[b].phis,Xm (renI top) j xs[b].instrs,xs[b].term⟩:=Xe _ _ _ _;have hbn:b<n:=by have:=hn.out;omega
 have hel:(xs.set b ⟨xs[b].phis,Xm (renI top) j xs[b].instrs,xs[b].term⟩)[b].instrs.length=M:=by rw[hxe];exact(Yc _ _).trans HM.symm
 obtain⟨ga,cp,hpv0⟩:=(HS.fn.ins b hb').form;rw[hel]at hpv0;have x1:wr.cell? ⟨w.heap.size,1,none⟩=some (.slice (some ⟨G,0,none⟩) n c):=Bx.cell HS.box rfl;have x2:wr.cell? ⟨G,b*6+1,none⟩=some (.slice ga M cp):=by rw[<-hpv0];exact(HS.fn.cells hb').2.1
 have hM1:M<=1000:=by have:=hl2.out;have:=HM.out;omega
 by_cases hlt:j<M
 ·have hltI:(j:Int)<M:=by omega
  have hjp:j<xs[b].instrs.length:=by rw[<-HM.out];exact hlt
  have hj':j<(xs.set b ⟨xs[b].phis,Xm (renI top) j xs[b].instrs,xs[b].term⟩)[b].instrs.length:=by omega
  have hxp:(xs.set b ⟨xs[b].phis,Xm (renI top) j xs[b].instrs,xs[b].term⟩)[b].instrs[j]=xs[b].instrs[j]:=by simp only[hxe];exact Un hjp _
  obtain⟨g,c2',hpv⟩:=(HS.fn.ins b hb').got (by omega);rw[hel,hpv0]at hpv;injection hpv with e1 _ e3;subst e1 e3;have HSI:Hid (∀W,JY w W lab base v G n c (xs.set b ⟨xs[b].phis,Xm (renI top) j xs[b].instrs,xs[b].term⟩) pv iv av->Z5 (US W g (j*5) (renI top xs[b].instrs[j])) lab base (.slice (some ⟨G,0,none⟩) n c) (xs.set b ⟨xs[b].phis,Xm (renI top) (j+1) xs[b].instrs,xs[b].term⟩) pv iv av/\lab g=(3,b,0)/\Y0 W g (j*5) xs[b].instrs[j]/\(∀q,W.frozen? ⟨g,q,none⟩=false)/\base<=g):=Xa (fun W hW=>by
   obtain⟨h1,h2,h3,h4⟩:=hW.fn.setIns (x:=renI top xs[b].instrs[j]) hb' hj' hpv0;rw[hxp]at h3;rw[List.set_set,hxe]at h1;simp only[Tc hjp]at h1;exact⟨h1,h2,h3,h4,((hW.fn.ins b hb').own.lt g (by rw[hpv0];rfl)).1⟩)
  obtain⟨-,-,⟨i0,i1,i2,i3,i4⟩,-,-⟩:=HSI.out wr HS.out;have HCX:Hid (∀W,JY w W lab base v G n c (xs.set b ⟨xs[b].phis,Xm (renI top) j xs[b].instrs,xs[b].term⟩) pv iv av->W.cell? ⟨w.heap.size,1,none⟩=some (.slice (some ⟨G,0,none⟩) n c)/\W.cell? ⟨G,b*6+1,none⟩=some (.slice (some ⟨g,0,none⟩) M cp)):=Xa (fun W hW=>⟨Bx.cell hW.box rfl,by rw[<-hpv0];exact(hW.fn.cells hb').2.1⟩);clear hxe hpv0 hel hj' hb' hxp;generalize xs[b].instrs[j]=X at *
  go_wp2_with fail
  have HR0:=Xa (HS.alloc (.cells #[.int .i64 X.op,.int .i64 X.dst,.int .i64 X.a,.int .i64 X.b,.int .i64 X.imm] 53));have HI0:Hid (UH (wr.alloc (.cells #[.int .i64 X.op,.int .i64 X.dst,.int .i64 X.a,.int .i64 X.b,.int .i64 X.imm] 53)) wr.heap.size X):=Xa (Bx.new _ _ _);have HIB:Hid (w.heap.size+2<=wr.heap.size):=Xa HS.res.lt;clear HS x1 x2 i0 i1 i2 i3 i4;generalize wr.alloc (.cells #[.int .i64 X.op,.int .i64 X.dst,.int .i64 X.a,.int .i64 X.b,.int .i64 X.imm] 53)=wq at *;generalize wr.heap.size=ib at *;refine(Zbm X.op wq).mono ?_;rintro e wq0 ⟨rfl,hwq⟩;subst hwq
  go_upto_if 115 with fail
  go_cut [] from 93 to 145 (fun wz=>Hid (JY w wz lab base v G n c (xs.set b ⟨xs[b].phis,Xm (renI top) j xs[b].instrs,xs[b].term⟩) pv iv av)/\Hid (UH wz ib ⟨X.op,(if dB X.op=true then wrap64 (top-X.dst)else X.dst),X.a,X.b,X.imm⟩))
  case first =>
   obtain⟨b0,b1,b2,b3,b4⟩:=UH.cells HI0.out;have bz:=Bx.thaw HI0.out;cases hd:dB X.op with
   | false =>
    go_wp2_with fail
    go_meet
    try rw[if_neg (show ¬dB X.op=true by rw[hd];simp)]
    exact⟨HR0,HI0⟩
   | true =>
    go_wp2_with fail
    go_meet;rw[if_pos hd];refine⟨Xa (HR0.putx HIB.out),Xa ?_⟩;exact UH.set1 HI0.out _
  case rest =>
   obtain⟨HR1,HI1⟩:=hcut;clear HR0 HI0;obtain⟨b0,b1,b2,b3,b4⟩:=UH.cells HI1.out
   go_wp2_with fail
   refine(Zfd X.op wc).mono ?_;rintro e wq1 ⟨rfl,hwq⟩;subst hwq;clear b0 b1 b2 b3 b4
   go_upto_if 123 with fail
   go_cut [] from 93 to 145 (fun wz=>Hid (JY w wz lab base v G n c (xs.set b ⟨xs[b].phis,Xm (renI top) j xs[b].instrs,xs[b].term⟩) pv iv av)/\Hid (UH wz ib ⟨X.op,(if dB X.op=true then wrap64 (top-X.dst)else X.dst),(if aB X.op=true then wrap64 (top-X.a)else X.a),X.b,X.imm⟩))
   case first =>
    obtain⟨b0,b1,b2,b3,b4⟩:=UH.cells HI1.out;have bz:=Bx.thaw HI1.out;cases hd:aB X.op with
    | false =>
     go_wp2_with fail
     go_meet
     try rw[if_neg (show ¬aB X.op=true by rw[hd];simp)]
     exact⟨HR1,HI1⟩
    | true =>
     go_wp2_with fail
     go_meet;rw[if_pos hd];refine⟨Xa (HR1.putx HIB.out),Xa ?_⟩;exact UH.set2 HI1.out _
   case rest =>
    obtain⟨HR2,HI2⟩:=hcut;clear HR1 HI1;obtain⟨b0,b1,b2,b3,b4⟩:=UH.cells HI2.out
    go_wp2_with fail
    refine(Zhg X.op wc).mono ?_;rintro e wq2 ⟨rfl,hwq⟩;subst hwq;clear b0 b1 b2 b3 b4
    go_upto_if 131 with fail
    go_cut [] from 93 to 145 (fun wz=>Hid (JY w wz lab base v G n c (xs.set b ⟨xs[b].phis,Xm (renI top) j xs[b].instrs,xs[b].term⟩) pv iv av)/\Hid (UH wz ib ⟨X.op,(if dB X.op=true then wrap64 (top-X.dst)else X.dst),(if aB X.op=true then wrap64 (top-X.a)else X.a),(if bB X.op=true then wrap64 (top-X.b)else X.b),X.imm⟩))
    case first =>
     obtain⟨b0,b1,b2,b3,b4⟩:=UH.cells HI2.out;have bz:=Bx.thaw HI2.out;cases hd:bB X.op with
     | false =>
      go_wp2_with fail
      go_meet
      try rw[if_neg (show ¬bB X.op=true by rw[hd];simp)]
      exact⟨HR2,HI2⟩
     | true =>
      go_wp2_with fail
      go_meet;rw[if_pos hd];refine⟨Xa (HR2.putx HIB.out),Xa ?_⟩;exact UH.set3 HI2.out _
    case rest =>
     obtain⟨HR3,HI3⟩:=hcut;clear HR2 HI2;have HXR:Hid (renI top X=⟨X.op,(if dB X.op=true then wrap64 (top-X.dst)else X.dst),(if aB X.op=true then wrap64 (top-X.a)else X.a),(if bB X.op=true then wrap64 (top-X.b)else X.b),X.imm⟩):=Xa rfl;rw[<-HXR.out]at HI3;obtain⟨b0,b1,b2,b3,b4⟩:=UH.cells HI3.out;obtain⟨hf9,hgl,⟨i0,i1,i2,i3,i4⟩,hz,hgb⟩:=HSI.out wc HR3.out;obtain⟨x1,x2⟩:=HCX.out wc HR3.out;have HF9:=Xa hf9;have hig:ib≠g:=fun e=>by have:=HR3.fr ib (by have:=HIB.out;omega);rw[e,hgl]at this;simp at this
     have HGN:Hid (w.heap.size≠g/\G≠g):=Xa ⟨fun e=>by have:=HR3.fr w.heap.size (Nat.le_refl _);rw[e,hgl]at this;simp at this,fun e=>by have:=HR3.fn.blks.lab G rfl;rw[e,hgl]at this;simp at this⟩;have HGL:=Xa hgl;generalize renI top X=R at *;have HS9:Hid ((((((wc.setCell ⟨g,j*5,none⟩ (.int .i64 R.op)).setCell ⟨g,j*5+1,none⟩ (.int .i64 R.dst)).setCell ⟨g,j*5+2,none⟩ (.int .i64 R.a)).setCell ⟨g,j*5+3,none⟩ (.int .i64 R.b)).setCell ⟨g,j*5+4,none⟩ (.int .i64 R.imm)).drew.cell? ⟨w.heap.size,1,none⟩=some (.slice (some ⟨G,0,none⟩) n c)/\(((((wc.setCell ⟨g,j*5,none⟩ (.int .i64 R.op)).setCell ⟨g,j*5+1,none⟩ (.int .i64 R.dst)).setCell ⟨g,j*5+2,none⟩ (.int .i64 R.a)).setCell ⟨g,j*5+3,none⟩ (.int .i64 R.b)).setCell ⟨g,j*5+4,none⟩ (.int .i64 R.imm)).drew.cell? ⟨G,b*6+1,none⟩=some (.slice (some ⟨g,0,none⟩) M cp)/\(((((wc.setCell ⟨g,j*5,none⟩ (.int .i64 R.op)).setCell ⟨g,j*5+1,none⟩ (.int .i64 R.dst)).setCell ⟨g,j*5+2,none⟩ (.int .i64 R.a)).setCell ⟨g,j*5+3,none⟩ (.int .i64 R.b)).setCell ⟨g,j*5+4,none⟩ (.int .i64 R.imm)).drew.cell? ⟨ib,0,none⟩=some (.int .i64 R.op)/\(((((wc.setCell ⟨g,j*5,none⟩ (.int .i64 R.op)).setCell ⟨g,j*5+1,none⟩ (.int .i64 R.dst)).setCell ⟨g,j*5+2,none⟩ (.int .i64 R.a)).setCell ⟨g,j*5+3,none⟩ (.int .i64 R.b)).setCell ⟨g,j*5+4,none⟩ (.int .i64 R.imm)).drew.cell? ⟨ib,1,none⟩=some (.int .i64 R.dst)/\(((((wc.setCell ⟨g,j*5,none⟩ (.int .i64 R.op)).setCell ⟨g,j*5+1,none⟩ (.int .i64 R.dst)).setCell ⟨g,j*5+2,none⟩ (.int .i64 R.a)).setCell ⟨g,j*5+3,none⟩ (.int .i64 R.b)).setCell ⟨g,j*5+4,none⟩ (.int .i64 R.imm)).drew.cell? ⟨ib,2,none⟩=some (.int .i64 R.a)/\(((((wc.setCell ⟨g,j*5,none⟩ (.int .i64 R.op)).setCell ⟨g,j*5+1,none⟩ (.int .i64 R.dst)).setCell ⟨g,j*5+2,none⟩ (.int .i64 R.a)).setCell ⟨g,j*5+3,none⟩ (.int .i64 R.b)).setCell ⟨g,j*5+4,none⟩ (.int .i64 R.imm)).drew.cell? ⟨ib,3,none⟩=some (.int .i64 R.b)/\(((((wc.setCell ⟨g,j*5,none⟩ (.int .i64 R.op)).setCell ⟨g,j*5+1,none⟩ (.int .i64 R.dst)).setCell ⟨g,j*5+2,none⟩ (.int .i64 R.a)).setCell ⟨g,j*5+3,none⟩ (.int .i64 R.b)).setCell ⟨g,j*5+4,none⟩ (.int .i64 R.imm)).drew.cell? ⟨ib,4,none⟩=some (.int .i64 R.imm)):=Xa (by
      have kk:∀q,q≠g->(((((wc.setCell ⟨g,j*5,none⟩ (.int .i64 R.op)).setCell ⟨g,j*5+1,none⟩ (.int .i64 R.dst)).setCell ⟨g,j*5+2,none⟩ (.int .i64 R.a)).setCell ⟨g,j*5+3,none⟩ (.int .i64 R.b)).setCell ⟨g,j*5+4,none⟩ (.int .i64 R.imm)).drew.heap[q]?=wc.heap[q]?:=fun q hq=>by
       show(((((wc.setCell ⟨g,j*5,none⟩ (.int .i64 R.op)).setCell ⟨g,j*5+1,none⟩ (.int .i64 R.dst)).setCell ⟨g,j*5+2,none⟩ (.int .i64 R.a)).setCell ⟨g,j*5+3,none⟩ (.int .i64 R.b)).setCell ⟨g,j*5+4,none⟩ (.int .i64 R.imm)).heap[q]?=wc.heap[q]?;rw[Below.heap_setCell _ _ _ _ hq,Below.heap_setCell _ _ _ _ hq,Below.heap_setCell _ _ _ _ hq,Below.heap_setCell _ _ _ _ hq,Below.heap_setCell _ _ _ _ hq]
      have n1:=kk _ HGN.1;have n2:=kk _ HGN.2;have n3:=kk _ hig;exact⟨(Xc n1).trans x1,(Xc n2).trans x2,(Xc n3).trans b0,(Xc n3).trans b1,(Xc n3).trans b2,(Xc n3).trans b3,(Xc n3).trans b4⟩)
     have HFIN:Hid (JY w (US wc g (j*5) R) lab base v G n c (xs.set b ⟨xs[b].phis,Xm (renI top) (j+1) xs[b].instrs,xs[b].term⟩) pv iv av):=Xa (HR3.step HF9.out (fun q _ e=>by
      have hq:q≠g:=fun e2=>by rw[e2,HGL.out]at e;simp at e
      unfold US;rw[Below.heap_setCell _ _ _ _ hq,Below.heap_setCell _ _ _ _ hq,Below.heap_setCell _ _ _ _ hq,Below.heap_setCell _ _ _ _ hq,Below.heap_setCell _ _ _ _ hq]) (((((((Below.refl base wc).setCell (p:=⟨g,j*5,none⟩) hgb _).setCell (p:=⟨g,j*5+1,none⟩) hgb _).setCell (p:=⟨g,j*5+2,none⟩) hgb _).setCell (p:=⟨g,j*5+3,none⟩) hgb _).setCell (p:=⟨g,j*5+4,none⟩) hgb _)))
     unfold US at HFIN;clear hf9 hgl hgb HF9
     go_wp2_with fail
     refine YZ (fun w'=>w'.cell? ⟨w.heap.size,1,none⟩=some (.slice (some ⟨G,0,none⟩) n c)/\w'.cell? ⟨G,b*6+1,none⟩=some (.slice (some ⟨g,0,none⟩) M cp)/\w'.cell? ⟨ib,0,none⟩=some (.int .i64 R.op)/\w'.cell? ⟨ib,1,none⟩=some (.int .i64 R.dst)/\w'.cell? ⟨ib,2,none⟩=some (.int .i64 R.a)/\w'.cell? ⟨ib,3,none⟩=some (.int .i64 R.b)/\w'.cell? ⟨ib,4,none⟩=some (.int .i64 R.imm)) (fun hHeld=>?_);refine XI 0 ?_;refine XI 1 ?_;refine XI 2 ?_;refine XI 3 ?_;refine XI 4 ?_;refine XI 5 ?_;refine XI 6 ?_;refine Xw 7 (fun K hK=>?_);go_simp;refine hK _ _ (by first | with_reducible exact hHeld | ((try dsimp only);go_keep)) (fun hHeld=>?_);clear hK;refine XI 8 ?_;refine Xw 9 (fun K hK=>?_);go_simp;refine hK _ _ HS9.out (fun hHeld=>?_);clear hK;refine Y7 ?_;clear hHeld
     go_wp2_with fail
     refine⟨⟨⟨j+1,_,_⟩,rfl,rfl,(by show j+1<=M;omega),Xa ?_⟩,by simp[intOf];omega⟩;exact HFIN.drew
 ·have hltI:¬(j:Int)<M:=by omega
  have hje:j=xs[b].instrs.length:=by rw[<-HM.out];omega
  have HFN:Hid (JY w wr lab base v G n c (xs.set b ⟨xs[b].phis,xs[b].instrs.map (renI top),xs[b].term⟩) pv iv av):=Xa (by
   have:=HS.out;rw[hje,KY]at this;exact this)
  clear hje hxe hpv0 hb' hel
  go_wp2_with fail
  exact HX.out _ _ _ _ rfl HFN.out
structure Y1 where
 b:Nat
 c5:Value
 c6:Value
 c7:Value
 c8:Value
 tl:List Value
theorem rn1{Q:Exit->Act->World->Prop}(w:World)(lab:Nat->Nat × Nat × Nat)(base v G n c:Nat)(xs:List Xf)(pv iv:Nat->Value)(av:Nat->Nat->Value)(top:Int)(c0 c2:Value)(hQ:Hid (∀c (a:Act) t v w,Q (.panic c) (a.put (some t) v) w->Q (.panic c) a w))(hn:Hid (n=xs.length))(hn2:n<=11)(hl2:Hid (∀x∈xs,x.phis.length<=1000/\(∀p∈x.phis,p.args.length<=1000)/\x.instrs.length<=1000))
 (hexit:∀(c5 c6 c7 c8:Value)(tl:List Value)(w':World),tl.length=161->JY w w' lab base v G n c (xs.map (ZU top)) pv iv av->Q (.exit 0) ⟨(c0::.pointer (some ⟨w.heap.size,0,none⟩)::c2::.int .i64 top::.int .i64 ((n:Nat):Int)::c5::c6::c7::c8::tl).toArray,[]⟩ w')
 (c5 c6 c7 c8:Value) (tl:List Value) (wr:World) (hl:tl.length=161) (h:Hid (JY w wr lab base v G n c xs pv iv av)) :
 Code.wp Tryz.prog (Code.loop rB1) Q ⟨(c0::.pointer (some ⟨w.heap.size,0,none⟩)::c2::.int .i64 top::.int .i64 ((0:Nat):Int)::c5::c6::c7::c8::tl).toArray,[]⟩ wr:=by
 have HX:=Xa hexit;clear hexit;refine wp_loop (fun a' wr=>∃x:Y1,a'=⟨(c0::.pointer (some ⟨w.heap.size,0,none⟩)::c2::.int .i64 top::.int .i64 ((x.b:Nat):Int)::x.c5::x.c6::x.c7::x.c8::x.tl).toArray,[]⟩/\x.tl.length=161/\x.b<=n/\Hid (JY w wr lab base v G n c (Xm (ZU top) x.b xs) pv iv av)) (fun a' _=>n-(intOf (a'.tmps.getD 4 undef)).toNat) ⟨⟨0,c5,c6,c7,c8,tl⟩,rfl,hl,Nat.zero_le _,Xa (by rw[Kg];exact h.out)⟩ ?_;clear h hl;rintro a' wr ⟨⟨b,c5,c6,c7,c8,tl⟩,rfl,hl,hb,HS⟩;dsimp only at hl hb HS |-
 conv=>arg 2;whnf
 obtain⟨f,rfl⟩:=Zbr tl hl;clear hl;have x1:wr.cell? ⟨w.heap.size,1,none⟩=some (.slice (some ⟨G,0,none⟩) n c):=Bx.cell HS.box rfl;by_cases hlt:b<n
 ·have hltI:(b:Int)<n:=by omega
  have hbx:b<xs.length:=by have:=hn.out;omega
  have hbm:b<(Xm (ZU top) b xs).length:=by rw[Yc];exact hbx
  have hxe:(Xm (ZU top) b xs)[b]=xs[b]:=Un hbx hbm;have HL2:=Xa (hl2.out _ (List.getElem_mem hbx))
  go_wp2_with fail
  refine rn2 w lab base v G n c (Xm (ZU top) b xs) pv iv av top b _ _ _ _ (by exact Xa (fun c a t v w h=>hQ.out c a t v w h)) hbm (Xa (by rw[Yc];exact hn.out)) (Xa (by rw[hxe];exact⟨HL2.1,HL2.2.1⟩)) ?_ _ _ _ (by rfl) HS;intro c5 c6 tl w1 hl hfin;obtain⟨f,rfl⟩:=Zbr tl hl;clear hl HS x1;rw[hxe]at hfin;have HS1:=Xa hfin;clear hfin
  go_wp2_with fail
  have hb1:b<((Xm (ZU top) b xs).set b ⟨xs[b].phis.map (XX top),xs[b].instrs,xs[b].term⟩).length:=by rw[List.length_set];exact hbm
  have hx1:((Xm (ZU top) b xs).set b ⟨xs[b].phis.map (XX top),xs[b].instrs,xs[b].term⟩)[b]=⟨xs[b].phis.map (XX top),xs[b].instrs,xs[b].term⟩:=Xe _ _ _ _;refine rn4 w lab base v G n c ((Xm (ZU top) b xs).set b ⟨xs[b].phis.map (XX top),xs[b].instrs,xs[b].term⟩) pv iv av top b _ _ _ _ (by exact Xa (fun c a t v w h=>hQ.out c a t v w h)) hb1 (Xa (by rw[List.length_set,Yc];exact hn.out)) (Xa (by rw[hx1];exact HL2.2.2)) ?_ _ _ _ (by rfl) HS1;intro c7 c8 tl w2 hl hfin;obtain⟨f,rfl⟩:=Zbr tl hl;clear hl HS1;rw[hx1,List.set_set]at hfin;have HS2:=Xa hfin;clear hfin;have hb2:b<((Xm (ZU top) b xs).set b ⟨xs[b].phis.map (XX top),xs[b].instrs.map (renI top),xs[b].term⟩).length:=by rw[List.length_set];exact hbm
  have hx2:((Xm (ZU top) b xs).set b ⟨xs[b].phis.map (XX top),xs[b].instrs.map (renI top),xs[b].term⟩)[b]=⟨xs[b].phis.map (XX top),xs[b].instrs.map (renI top),xs[b].term⟩:=Xe _ _ _ _;obtain⟨-,-,t0,t1,-,-⟩:=HS2.fn.cells hb2;rw[hx2]at t0 t1;dsimp only at t0 t1;have x1:w2.cell? ⟨w.heap.size,1,none⟩=some (.slice (some ⟨G,0,none⟩) n c):=Bx.cell HS2.box rfl;have HNX:Hid ((Xm (ZU top) b xs).set b (ZU top xs[b])=Xm (ZU top) (b+1) xs):=Xa (Tc hbx);obtain⟨hf9,hgl,hz⟩:=HS2.fn.setTerA (d:=wrap64 (top-xs[b].term.a)) hb2;rw[hx2,List.set_set]at hf9;have hgb:base<=G:=(HS2.fn.blks.own.lt G rfl).1;have HF9:=Xa (HS2.put hf9 (by rw[hgl];simp) hgb);have HSB:Hid (∀u,(w2.setCell ⟨G,b*6+2+1,none⟩ u).cell? ⟨w.heap.size,1,none⟩=some (.slice (some ⟨G,0,none⟩) n c)):=Xa (fun u=>by
   have l1:=HS2.fr w.heap.size (Nat.le_refl _);have n1:w.heap.size≠G:=fun e=>by rw[e,hgl]at l1;simp at l1
   exact(Xc (Below.heap_setCell _ _ _ _ n1)).trans x1)
  by_cases hk:xs[b].term.kind=1
  ·have hkb:(xs[b].term.kind != 1)=false:=by simpa using hk
   have HFN:Hid (JY w w2 lab base v G n c (Xm (ZU top) (b+1) xs) pv iv av):=Xa (by
    have e:ZU top xs[b]=⟨xs[b].phis.map (XX top),xs[b].instrs.map (renI top),xs[b].term⟩:=by
     unfold ZU Zhu;rw[if_neg (fun h=>h hk)];rfl
    rw[<-HNX.out,e];exact HS2.out)
   clear hk hf9 hx1 hx2 hxe hb1 hb2 hbm;generalize xs[b].term.kind=kd at *
   go_wp2_with fail
   exact⟨⟨⟨b+1,_,_,_,_,_⟩,⟨(by show(b:Int)+1=((b+1:Nat):Int);omega),rfl,rfl,rfl,rfl,rfl⟩,rfl,(by show b+1<=n;omega),HFN⟩,by simp[intOf];omega⟩
  ·have hkb:(xs[b].term.kind != 1)=true:=by simpa using hk
   have HFN:Hid (JY w (w2.setCell ⟨G,b*6+3,none⟩ (.int .i64 (wrap64 (top-xs[b].term.a)))) lab base v G n c (Xm (ZU top) (b+1) xs) pv iv av):=Xa (by
    have e:ZU top xs[b]=⟨xs[b].phis.map (XX top),xs[b].instrs.map (renI top),⟨xs[b].term.kind,wrap64 (top-xs[b].term.a),xs[b].term.to,xs[b].term.els⟩⟩:=by
     unfold ZU Zhu;rw[if_pos hk];rfl
    rw[<-HNX.out,e];exact HF9.out)
   clear hk hf9 hx1 hx2 hxe hb1 hb2 hbm HF9;generalize xs[b].term.kind=kd at *;generalize xs[b].term.a=ta at *
   go_wp2_with fail
   refine YZ (fun w'=>w'.cell? ⟨w.heap.size,1,none⟩=some (.slice (some ⟨G,0,none⟩) n c)) (fun hHeld=>?_);refine XI 0 ?_;refine XI 1 ?_;refine XI 2 ?_;refine XI 3 ?_;refine XI 4 ?_;refine XI 5 ?_;refine XI 6 ?_;refine XI 7 ?_;refine XI 8 ?_;refine XI 9 ?_;refine Xw 10 (fun K hK=>?_);go_simp;refine hK _ _ (by first | with_reducible exact hHeld | ((try dsimp only);go_keep)) (fun hHeld=>?_);clear hK;refine XI 11 ?_;refine XI 12 ?_;refine XI 13 ?_;refine XI 14 ?_;refine Xw 15 (fun K hK=>?_);go_simp;refine hK _ _ (HSB.out _) (fun hHeld=>?_);clear hK;refine Y7 ?_;clear hHeld
   go_wp2_with fail
   refine⟨⟨⟨b+1,_,_,_,_,_⟩,rfl,rfl,(by show b+1<=n;omega),Xa ?_⟩,by simp[intOf];omega⟩;exact HFN.drew
 ·have hltI:¬(b:Int)<n:=by omega
  have hbe:b=n:=by omega
  subst hbe;have HFN:Hid (JY w wr lab base v G b c (xs.map (ZU top)) pv iv av):=Xa (by
   have:=HS.out;rw[<-KY,<-hn.out];exact this)
  go_wp2_with fail
  exact HX.out _ _ _ _ _ _ rfl HFN.out
theorem Zcp:Zi3:=by
 intro v G n c xs lab base pv iv av w hF hn hbs hfr hn2 hv hsm;have HS0:Hid (JY w ((w.alloc (.cells #[.int .i64 (v:Int),.slice (some ⟨G,0,none⟩) n c] 25)).alloc (.cells #[.int .i64 0,.slice none 0 0] 25)) lab base v G n c xs pv iv av):=Xa (by
  have k:XK w ((w.alloc (.cells #[.int .i64 (v:Int),.slice (some ⟨G,0,none⟩) n c] 25)).alloc (.cells #[.int .i64 0,.slice none 0 0] 25)) lab lab base (fun _=>True):=((XK.box _).trans (XK.box _)).weak (fun _ _=>⟨trivial,trivial⟩);refine⟨hF.sp k 0 (fun _ _ _ _ _=>trivial) (Or.inl (fun _ _=>trivial)),Below.alloc (Below.alloc (Below.refl _ _) hbs _) (by simp;omega) _,fun b hb _=>(Below.heap_alloc _ _ _ (by simp;omega)).trans (Below.heap_alloc _ _ _ hb),hfr.out,hbs,(Bx.new _ _ _).box _,?_⟩;have:=Bx.new (w.alloc (.cells #[.int .i64 (v:Int),.slice (some ⟨G,0,none⟩) n c] 25)) #[.int .i64 0,.slice none 0 0] 25;rwa[World.size_alloc]at this)
 clear hF
 go_enter Tryz.func76,Tryz.ntmps76
 have x0:((w.alloc (.cells #[.int .i64 (v:Int),.slice (some ⟨G,0,none⟩) n c] 25)).alloc (.cells #[.int .i64 0,.slice none 0 0] 25)).cell? ⟨w.heap.size,0,none⟩=some (.int .i64 (v:Int)):=Bx.cell HS0.box rfl
 go_wp2_with fail
 generalize (w.alloc (.cells #[.int .i64 (v:Int),.slice (some ⟨G,0,none⟩) n c] 25)).alloc (.cells #[.int .i64 0,.slice none 0 0] 25)=w0 at *;refine rn1 w lab base v G n c xs pv iv av ((v:Int)-1) _ _ (by exact Xa (fun c a t v w h=>h)) hn hn2 hsm ?_ _ _ _ _ _ _ (by rfl) HS0;intro c5 c6 c7 c8 tl w1 hl hfin;obtain⟨f,rfl⟩:=Zbr tl hl;clear hl HS0 x0;have HF:=Xa hfin;clear hfin;have f0:w1.cell? ⟨w.heap.size,0,none⟩=some (.int .i64 (v:Int)):=Bx.cell HF.box rfl;have f1:w1.cell? ⟨w.heap.size,1,none⟩=some (.slice (some ⟨G,0,none⟩) n c):=Bx.cell HF.box rfl;have r0:w1.cell? ⟨w.heap.size+1,0,none⟩=some (.int .i64 0):=Bx.cell HF.res rfl;have r1:w1.cell? ⟨w.heap.size+1,1,none⟩=some (.slice none 0 0):=Bx.cell HF.res rfl;have rz:=Bx.thaw HF.res;go_wp2;refine bodyPost_ret (v:=.agg #[.int .i64 (v:Int),.slice (some ⟨G,0,none⟩) n c]) (by simp[results,Tryz.results76,go_sem,r0,r1]) rfl ⟨rfl,?_,?_,?_,?_⟩
 ·exact HF.bel.trans (((Below.refl base w1).setCell (p:=⟨w.heap.size+1,0,none⟩) (Nat.le_succ_of_le hbs) _).setCell (p:=⟨w.heap.size+1,1,none⟩) (Nat.le_succ_of_le hbs) _)
 ·have hl:=HF.fr (w.heap.size+1) (Nat.le_succ _)
  have k1:XK w1 ((w1.setCell ⟨w.heap.size+1,0,none⟩ (.int .i64 (v:Int))).setCell ⟨w.heap.size+1,1,none⟩ (.slice (some ⟨G,0,none⟩) n c)) lab lab base (fun b=>b≠w.heap.size+1):=((XK.put _ _ _).trans (XK.put _ _ _)).weak (fun _ hb=>⟨hb,hb⟩);have nb:∀b,(lab b).1≠0->b≠w.heap.size+1:=fun b h1 e=>h1 (by rw[e,hl])
  exact HF.fn.sp k1 0 (fun b h1 _ _ _=>nb b h1) (Or.inl (fun b e=>nb b (by rcases e with e | e<;>rw[e]<;>simp)))
 ·intro b hb hl
  have nb:b≠w.heap.size+1:=by omega
  exact((Below.heap_setCell _ _ _ _ nb).trans (Below.heap_setCell _ _ _ _ nb)).trans (HF.kept b hb hl)
 ·intro b hb
  have hsz:=HF.res.lt;exact HF.fr b (by simp[World.setCell]at hb;omega)
end Go.Proofs.YtkehcdfalcakmaaGreatDoor
