import Derived.Test.YthgikffcdgpgiaaGreatDoorKP2
import Derived.Test.YthgikffcdgpgiaaGreatDoorW10
import Derived.Test.YthgikffcdgpgiaaGreatDoorDR1
import Derived.Deep.RegionHeld3
import Derived.Deep.MidRow
namespace Go.Proofs.YthgikffcdgpgiaaGreatDoor
open Go.RowKit
def findBlk (k:Nat):Code→Option Code
 | .seq x y=>match findBlk k x with
  | some c=>some c
  | none=>findBlk k y
 | .block i c=>if i=k then some c else findBlk k c
 | .scope c=>findBlk k c
 | .loop c=>findBlk k c
 | .cond _ x y=>match findBlk k x with
  | some c=>some c
  | none=>findBlk k y
 | _=>none
noncomputable def eaP:Code:=(Tryz.f27.body.bind (findBlk 4)).getD .skip
noncomputable def eaI:Code:=(Tryz.f27.body.bind (findBlk 6)).getD .skip
theorem FrM.drew {M:Nat→Prop} {A B:World} (h:FrM M A B):FrM M A B.drew:=h.trans (FrM.of_below (Below.refl _ _).drew)
set_option maxHeartbeats 2000000 in
set_option maxRecDepth 1000000 in
theorem ed_ph (bs G ns Kw z0 cz bp bo np pc:Nat) (pa:Option Addr) (ps:List Ph) (L B:Nat) (M:Nat→Prop) (Js:Nat→World→Prop) (U:World) (Q:Exit→Act→World→Prop) (ds:List Deferred) (c0 c2 c3 c4 c5 c6 c7 c9 c10 c11 c12 c13 c14 c15 c16 c17 c18 c19 c20 c21 c22 c23 c24 c25 c26 c27 c28 c29 c30 c31 c32 c33 c34 c35 c36 c37 c38 c39 c40 c41 c42 c43 c44 c45 c46 c47 c48 c49 c50 c51 c55 c56 c57 c58 c59 c60 c61 c62 c63 c64 c65 c66 c67 c68 c69 c70 c71 c72 c73 c74 c75 c76 c77 c78 c79 c80 c81 c82 c83 c84 c85 c86 c87 c88 c89 c90:Value)
  (hQ:Hid (∀c (a:Act) t v w,Q (.panic c) (a.put (some t) v) w→Q (.panic c) a w))
  (hph:Hid (PhsAt U L B pa ps)) (hnp:Hid (np=ps.length)) (hn4:np≤4000) (hM:Hid (∀q,L≤q→q<B→¬M q)) (hbs:Hid (¬M bs)) (hG:Hid (¬M G)) (hMl:Hid (∀q,M q→q<U.heap.size))
  (sb:U.cell? ⟨bs,0,none⟩=some (.slice (some ⟨G,0,none⟩) (ns+1) (ns+1))) (sg:U.cell? ⟨G,0,none⟩=some (.slice (some ⟨z0,0,none⟩) Kw cz))
  (hJ:Hid (∀i A A',Js i A→Below A.heap.size A A'→Js i A'))
  (hst:Hid (∀i (h:i<ps.length) A,FrM M U A→Js i A→Calls Tryz.prog 28 #[.int .i64 ps[i].dst,.agg #[.slice (some ⟨z0,0,none⟩) Kw cz],.pointer (some ⟨bp,0,none⟩),.pointer (some ⟨bo,0,none⟩)] A fun e A'=>e=.returned (.tuple #[])∧FrM M A A'∧Js (i+1) A'))
  (h0:Hid (Js 0 U))
  (hN:Hid (∀(d12 d55 d56 d57 d58 d59 d60 d61 d62 d63 d64 d65:Value) (A:World),FrM M U A→Js np A→Q (.exit 4) ⟨#[c0,.func (.func 28) #[] #[.pointer (some ⟨bp,0,none⟩),.pointer (some ⟨bo,0,none⟩)],c2,c3,c4,c5,c6,c7,.pointer (some ⟨bs,0,none⟩),c9,c10,c11,d12,c13,c14,c15,c16,c17,c18,c19,c20,c21,c22,c23,c24,c25,c26,c27,c28,c29,c30,c31,c32,c33,c34,c35,c36,c37,c38,c39,c40,c41,c42,c43,c44,c45,c46,c47,c48,c49,c50,c51,.slice pa np pc,.int .i64 (np:Int),.int .i64 (np:Int),d55,d56,d57,d58,d59,d60,d61,d62,d63,d64,d65,c66,c67,c68,c69,c70,c71,c72,c73,c74,c75,c76,c77,c78,c79,c80,c81,c82,c83,c84,c85,c86,c87,c88,c89,c90],ds⟩ A)) :
  Code.wp Tryz.prog eaP Q ⟨#[c0,.func (.func 28) #[] #[.pointer (some ⟨bp,0,none⟩),.pointer (some ⟨bo,0,none⟩)],c2,c3,c4,c5,c6,c7,.pointer (some ⟨bs,0,none⟩),c9,c10,c11,c12,c13,c14,c15,c16,c17,c18,c19,c20,c21,c22,c23,c24,c25,c26,c27,c28,c29,c30,c31,c32,c33,c34,c35,c36,c37,c38,c39,c40,c41,c42,c43,c44,c45,c46,c47,c48,c49,c50,c51,.slice pa np pc,.int .i64 (np:Int),.int .i64 0,c55,c56,c57,c58,c59,c60,c61,c62,c63,c64,c65,c66,c67,c68,c69,c70,c71,c72,c73,c74,c75,c76,c77,c78,c79,c80,c81,c82,c83,c84,c85,c86,c87,c88,c89,c90],ds⟩ U:=by
 conv=>arg 2;whnf
 dsimp only
 have eg:∀args w,(callFunc 28 args).run Tryz.prog w=.ok (.enter 28 args) w:=enters_of Tryz.func28 (by kernel_rfl) rfl
 have HSB:=hide sb
 have HSG:=hide sg
 clear sb sg
 go_loopw [54] (fun i wx=>∃i':Nat,i'≤np∧i=.int .i64 i'∧Hid (FrM M U wx)∧Hid (Js i' wx)) (fun i _=>np-(intOf i).toNat)
 case atStart=>exact ⟨0,Nat.zero_le _,rfl,hide (FrM.refl _ _),h0⟩
 case round =>
  obtain ⟨i,hi,rfl,HF,HJ⟩:=hrel
  by_cases hli:i<np
  ·have hi':i<ps.length:=by rw [←hnp.out];exact hli
   obtain ⟨pb,po,rfl,hpb,pav,pcv,d0,d1,_⟩:=hph.out i hi'
   have e0:=HF.out.cell (hM.out pb hpb.1 hpb.2) d0
   have e1:=HF.out.cell (hM.out pb hpb.1 hpb.2) d1
   have HSTi:=hide (hst.out i hi')
   generalize ps[i].dst=dd at *
   generalize ps[i].args.length=dl at *
   have hii:(i:Int)<(np:Int):=by omega
   clear d0 d1
   have HBA:Hid (Below wr.heap.size wr (wr.alloc (.cells #[.int .i64 dd,.slice pav dl pcv] 64))):=hide (balloc (Below.refl _ _) _)
   have HFA:Hid (FrM M U (wr.alloc (.cells #[.int .i64 dd,.slice pav dl pcv] 64))):=hide (HF.out.trans (FrM.of_below HBA.out))
   have HJA:Hid (Js i (wr.alloc (.cells #[.int .i64 dd,.slice pav dl pcv] 64))):=hide (hJ.out _ _ _ HJ.out HBA.out)
   have x0:(wr.alloc (.cells #[.int .i64 dd,.slice pav dl pcv] 64)).cell? ⟨wr.heap.size,0,none⟩=some (.int .i64 dd):=by simp [go_sem]
   have HXB:Hid (¬M wr.heap.size):=hide (fun h=>by have:=hMl.out _ h;have:=HF.out.size;omega)
   go_wp2_with fail
   generalize wr.alloc (.cells #[.int .i64 dd,.slice pav dl pcv] 64)=w5 at *
   generalize wr.heap.size=xb at *
   have sb:=HFA.out.cell hbs.out HSB.out
   have sg:=HFA.out.cell hG.out HSG.out
   have HSC:=hide (HSTi.out w5.drew HFA.out.drew (hJ.out _ _ _ HJA.out (Below.refl _ _).drew))
   clear e0 e1 HSTi
   refine wp_region_held_drew (S:=(fun w'=>w'.cell? ⟨xb,0,none⟩=some (.int .i64 dd)∧w'.cell? ⟨bs,0,none⟩=some (.slice (some ⟨G,0,none⟩) (ns+1) (ns+1))∧w'.cell? ⟨G,0,none⟩=some (.slice (some ⟨z0,0,none⟩) Kw cz))) (by kernel_rfl) (by (try dsimp only);go_keep) (fun hHeld=>?_)
   refine tkQ 0 rfl (v:=?_) (fun _ _ _ h=>hQ.out _ _ _ _ _ h) ?_
   simp only [Act.put,xA,xB,xD,xE,xF]
   refine tkQ 1 rfl (v:=?_) (fun _ _ _ h=>hQ.out _ _ _ _ _ h) ?_
   simp only [Act.put,xA,xB,xC,xD,xE,xF]
   refine tkQ 2 rfl (v:=?_) (fun _ _ _ h=>hQ.out _ _ _ _ _ h) ?_
   simp only [Act.put,xA,xB,xC,xD,xE,xF]
   refine tkQ 3 rfl (v:=?_) (fun _ _ _ h=>hQ.out _ _ _ _ _ h) ?_
   simp only [Act.put,xA,xB,xC,xD,xE,xF]
   refine tkQ 4 rfl (v:=?_) (fun _ _ _ h=>hQ.out _ _ _ _ _ h) ?_
   simp only [Act.put,xA,xB,xC,xD,xE,xF]
   refine tkQ 5 rfl (v:=?_) (fun _ _ _ h=>hQ.out _ _ _ _ _ h) ?_
   simp only [Act.put,xA,xB,xC,xD,xE,xF]
   refine wpAnyH_ready (rs:=[6]) (by kernel_rfl) (by simp) ?_
   refine AllReadyH.cons rfl (fun K hK=>?_) AllReadyH.nil
   go_simp
   refine HSC.out.mono ?_
   rintro e w6 ⟨rfl,hf6,hj6⟩
   have HF6:=hide (HFA.out.drew.trans hf6)
   have HJ6:=hide hj6
   refine hK.out _ _ ⟨hf6.cell HXB.out x0,hf6.cell hbs.out sb,hf6.cell hG.out sg⟩ (fun hHeld=>?_)
   clear hK
   try simp only [Act.put,xA,xB,xC,xD,xE,xF]
   refine wpAnyH_done (by kernel_rfl) ?_ _
   clear hHeld sb sg x0 HSC hf6 hj6
   go_wp2_with fail
   exact ⟨⟨i+1,by omega,by go_num,HF6,HJ6⟩,by simp [intOf];omega⟩
  ·have hin:i=np:=by omega
   subst hin
   go_wp2_with fail
   exact hN.out _ _ _ _ _ _ _ _ _ _ _ _ _ HF.out HJ.out
set_option maxHeartbeats 4000000 in
set_option maxRecDepth 1000000 in
theorem ed_in (bs G Kw bp bo ni ic:Nat) (zs cw:Nat→Nat) (ia:Option Addr) (ys:List Ins) (L B:Nat) (M:Nat→Prop) (Js:Nat→World→Prop) (U:World) (Q:Exit→Act→World→Prop) (ds:List Deferred) (c0 c2 c3 c4 c5 c6 c7 c9 c10 c11 c12 c13 c14 c15 c16 c17 c18 c19 c20 c21 c22 c23 c24 c25 c26 c27 c28 c29 c30 c31 c32 c33 c34 c35 c36 c37 c38 c39 c40 c41 c42 c43 c44 c45 c46 c47 c48 c49 c50 c51 c52 c53 c54 c55 c56 c57 c58 c59 c60 c61 c62 c63 c64 c65 c66 c70 c71 c72 c73 c74 c75 c76 c77 c78 c79 c80 c81 c82 c83 c84 c85 c86 c87 c88 c89 c90:Value)
  (hin:Hid (InssAt U L B ia ys)) (hni:Hid (ni=ys.length)) (hn4:ni≤4000) (hM:Hid (∀q,L≤q→q<B→¬M q)) (hbs:Hid (¬M bs)) (hG:Hid (¬M G))
  (sb:U.cell? ⟨bs,0,none⟩=some (.slice (some ⟨G,0,none⟩) (ni+1) (ni+1))) (sg:Hid (∀i,i≤ni→U.cell? ⟨G,i,none⟩=some (.slice (some ⟨zs i,0,none⟩) Kw (cw i))))
  (hops:Hid (∀y∈ys,1≤y.op∧y.op≤13)) (hOT:Hid (∀A,FrM M U A→OpTabW A))
  (hJ:Hid (∀i A A',Js i A→Below A.heap.size A A'→Js i A'))
  (hst:Hid (∀i (h:i<ys.length),dB ys[i].op=true→∀A,FrM M U A→Js i A→Calls Tryz.prog 28 #[.int .i64 ys[i].dst,.agg #[.slice (some ⟨zs (i+1),0,none⟩) Kw (cw (i+1))],.pointer (some ⟨bp,0,none⟩),.pointer (some ⟨bo,0,none⟩)] A fun e A'=>e=.returned (.tuple #[])∧FrM M A A'∧Js (i+1) A'))
  (hno:Hid (∀i (h:i<ys.length),dB ys[i].op=false→∀A,Js i A→Js (i+1) A))
  (h0:Hid (Js 0 U))
  (hN:Hid (∀(d13 d14 d16 d70 d71 d72 d73 d74 d75 d76 d77 d78 d79 d80 d81 d82 d83 d84 d85 d86 d87 d88 d89:Value) (A:World),FrM M U A→Js ni A→Q (.exit 6) ⟨#[c0,.func (.func 28) #[] #[.pointer (some ⟨bp,0,none⟩),.pointer (some ⟨bo,0,none⟩)],c2,c3,c4,c5,c6,c7,.pointer (some ⟨bs,0,none⟩),c9,c10,c11,c12,d13,d14,c15,d16,c17,c18,c19,c20,c21,c22,c23,c24,c25,c26,c27,c28,c29,c30,c31,c32,c33,c34,c35,c36,c37,c38,c39,c40,c41,c42,c43,c44,c45,c46,c47,c48,c49,c50,c51,c52,c53,c54,c55,c56,c57,c58,c59,c60,c61,c62,c63,c64,c65,c66,.slice ia ni ic,.int .i64 (ni:Int),.int .i64 (ni:Int),d70,d71,d72,d73,d74,d75,d76,d77,d78,d79,d80,d81,d82,d83,d84,d85,d86,d87,d88,d89,c90],ds⟩ A)) :
  Code.wp Tryz.prog eaI Q ⟨#[c0,.func (.func 28) #[] #[.pointer (some ⟨bp,0,none⟩),.pointer (some ⟨bo,0,none⟩)],c2,c3,c4,c5,c6,c7,.pointer (some ⟨bs,0,none⟩),c9,c10,c11,c12,c13,c14,c15,c16,c17,c18,c19,c20,c21,c22,c23,c24,c25,c26,c27,c28,c29,c30,c31,c32,c33,c34,c35,c36,c37,c38,c39,c40,c41,c42,c43,c44,c45,c46,c47,c48,c49,c50,c51,c52,c53,c54,c55,c56,c57,c58,c59,c60,c61,c62,c63,c64,c65,c66,.slice ia ni ic,.int .i64 (ni:Int),.int .i64 0,c70,c71,c72,c73,c74,c75,c76,c77,c78,c79,c80,c81,c82,c83,c84,c85,c86,c87,c88,c89,c90],ds⟩ U:=by
 conv=>arg 2;whnf
 dsimp only
 have eg:∀args w,(callFunc 28 args).run Tryz.prog w=.ok (.enter 28 args) w:=enters_of Tryz.func28 (by kernel_rfl) rfl
 have HSB:=hide sb
 clear sb
 go_loopw [69] (fun i wx=>∃i':Nat,i'≤ni∧i=.int .i64 i'∧Hid (FrM M U wx)∧Hid (Js i' wx)) (fun i _=>ni-(intOf i).toNat)
 case atStart=>exact ⟨0,Nat.zero_le _,rfl,hide (FrM.refl _ _),h0⟩
 case round =>
  obtain ⟨i,hi,rfl,HF,HJ⟩:=hrel
  by_cases hli:i<ni
  ·have hi':i<ys.length:=by rw [←hni.out];exact hli
   obtain ⟨pb,po,rfl,hpb,d0,d1,d2,d3,d4⟩:=hin.out i hi'
   have hnp:=hM.out pb hpb.1 hpb.2
   have e0:=HF.out.cell hnp d0
   have e1:=HF.out.cell hnp d1
   have e2:=HF.out.cell hnp d2
   have e3:=HF.out.cell hnp d3
   have e4:=HF.out.cell hnp d4
   have hop:=hops.out _ (List.getElem_mem hi')
   have HSTi:=hide (hst.out i hi')
   have HNOi:=hide (hno.out i hi')
   generalize ys[i]=y at *
   obtain ⟨op,dd,da,db,di⟩:=y
   simp only at e0 e1 e2 e3 e4 hop HSTi HNOi
   obtain ⟨kop,hkop⟩:=Int.eq_ofNat_of_zero_le (show 0≤op by omega)
   subst hkop
   have hii:(i:Int)<(ni:Int):=by omega
   clear d0 d1 d2 d3 d4
   have HBA:Hid (Below wr.heap.size wr (wr.alloc (.cells #[.int .i64 (kop:Int),.int .i64 dd,.int .i64 da,.int .i64 db,.int .i64 di] 67))):=hide (balloc (Below.refl _ _) _)
   have HFA:Hid (FrM M U (wr.alloc (.cells #[.int .i64 (kop:Int),.int .i64 dd,.int .i64 da,.int .i64 db,.int .i64 di] 67))):=hide (HF.out.trans (FrM.of_below HBA.out))
   have HJA:Hid (Js i (wr.alloc (.cells #[.int .i64 (kop:Int),.int .i64 dd,.int .i64 da,.int .i64 db,.int .i64 di] 67))):=hide (hJ.out _ _ _ HJ.out HBA.out)
   have HIA:Hid (InsAt (wr.alloc (.cells #[.int .i64 (kop:Int),.int .i64 dd,.int .i64 da,.int .i64 db,.int .i64 di] 67)) wr.heap.size 0 ⟨kop,dd,da,db,di⟩):=hide ⟨by simp [go_sem],by simp [go_sem],by simp [go_sem],by simp [go_sem],by simp [go_sem]⟩
   go_wp2_with fail
   generalize (wr.alloc (.cells #[.int .i64 (kop:Int),.int .i64 dd,.int .i64 da,.int .i64 db,.int .i64 di] 67))=w5 at *
   generalize wr.heap.size=xb at *
   have HWR:=hide (writes_any xb kop dd da db di w5 HIA (by omega) (by omega) (hide (hOT.out _ HFA.out)))
   clear e0 e1 e2 e3 e4 HIA HBA
   refine HWR.out.mono ?_
   rintro e w6 ⟨v6,rfl,hb6,ho6⟩
   have HF6:=hide (HFA.out.trans (FrM.of_below hb6))
   have HJ6:=hide (hJ.out _ _ _ HJA.out hb6)
   clear HWR
   cases hu:dB (kop:Int) with
   | false =>
    obtain ⟨av,cv,e6,_⟩:=ints_owned ho6
    rw [show (writesI ⟨(kop:Int),dd,da,db,di⟩).length=0 by unfold writesI;rw [hu];rfl] at e6
    subst e6
    have HJN:=hide (HNOi.out hu)
    clear hu hb6 ho6 HSTi HNOi
    go_wp2_with fail
    generalize wr=wv at *
    go_loopw [76] (fun j wx=>j=.int .i64 0∧Hid (FrM M U wx)∧Hid (Js i wx)) (fun _ _=>0)
    case atStart=>exact ⟨rfl,HF6,HJ6⟩
    case round =>
     obtain ⟨rfl,HFx,HJx⟩:=hrel
     go_wp2_with fail
     exact ⟨⟨i+1,by omega,by go_num,HFx,hide (HJN.out _ HJx.out)⟩,by simp [intOf];omega⟩
   | true =>
    have h1:w6.ownsRow w5.heap.size 2 1 v6 1 [.int .i64 dd]:=by
     have:=ho6
     unfold writesI at this
     rw [hu] at this
     exact this
    obtain ⟨gv,cv,e6,hgv,hcv⟩:∃gv cv,v6=.slice (some ⟨gv,0,none⟩) 1 cv∧w5.heap.size≤gv∧w6.cell? ⟨gv,0,none⟩=some (.int .i64 dd):=by
     obtain ⟨gv,cv,e,h2,_⟩:=own_some' h1 (by omega)
     subst e
     exact ⟨gv,cv,rfl,h2.1,own_cell h1 rfl⟩
    subst e6
    have HCV:=hide hcv
    have HSC:=hide (fun A h1 h2=>HSTi.out hu A h1 h2)
    clear hu hb6 ho6 h1 HSTi HNOi hcv
    go_wp2_with fail
    generalize wr=wv at *
    go_loopw [76] (fun j wx=>(j=.int .i64 0∧Hid (FrM M U wx)∧Hid (Js i wx)∧Hid (wx.cell? ⟨gv,0,none⟩=some (.int .i64 dd)))∨(j=.int .i64 1∧Hid (FrM M U wx)∧Hid (Js (i+1) wx))) (fun j _=>1-(intOf j).toNat)
    case atStart=>exact Or.inl ⟨rfl,HF6,HJ6,HCV⟩
    case round =>
     rcases hrel with ⟨rfl,HFx,HJx,HCx⟩ | ⟨rfl,HFx,HJx⟩
     ·have sb:=HFx.out.cell hbs.out HSB.out
      have sg1:=HFx.out.cell hG.out (sg.out (i+1) (by omega))
      have cx:=HCx.out
      have hwj:IntKind.i64.wrap ((i:Int)+1)=(i:Int)+1:=by rw [IntKind.wrap_i64];omega
      have hj0:0≤(i:Int)+1:=by omega
      have hjn1:(i:Int)+1<(ni:Int)+1:=by omega
      have HCC:=hide (HSC.out wr HFx.out HJx.out)
      go_wp2_with fail
      refine HCC.out.mono ?_
      rintro e w7 ⟨rfl,hf7,hj7⟩
      have HF7:=hide (HFx.out.trans hf7)
      have HJ7:=hide hj7
      clear hf7 hj7 sb sg1 cx
      go_wp2_with fail
      exact ⟨Or.inr ⟨by go_num,HF7,HJ7⟩,by simp [intOf]⟩
     ·go_wp2_with fail
      exact ⟨⟨i+1,by omega,by go_num,HFx,HJx⟩,by simp [intOf];omega⟩
  ·have hin':i=ni:=by omega
   subst hin'
   go_wp2_with fail
   exact hN.out _ _ _ _ _ _ _ _ _ _ _ _ _ _ _ _ _ _ _ _ _ _ _ _ HF.out HJ.out
end Go.Proofs.YthgikffcdgpgiaaGreatDoor
