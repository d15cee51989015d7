import Derived.Test.YtdfdmjcngkfciaaDoorDL6
import Derived.Test.YtdfdmjcngkfciaaDoorDL1
import Derived.Test.YtdfdmjcngkfciaaDoorDGc
namespace Go.Proofs.YtdfdmjcngkfciaaDoor
open Go.RowKit
structure X5 where
 j:Nat
 k:Nat
 ps:List Ph
 s:Sr
 c23:Value
 tl:List Value
set_option maxHeartbeats 8000000 in
set_option maxRecDepth 100000 in
theorem lp5 {Q:Exit→Act→World→Prop} (w:World) (sb B:Nat) (fb vals G c:Nat) (xs:List Blk) (ge ne ce:Nat) (ends:List (List Int)) (vi:Value) (ids:List Int) (pa:Option Addr) (pl pcap:Nat) (preds:List Int) (i N:Nat) (s0:Sr) (c1 c2 c3 c4 c5 c6 c8 c9 c11 c12 c13 c14 c15 c16 c17 c18 c19:Value) (hQ:Hid (∀c (a:Act) t v w,Q (.panic c) (a.put (some t) v) w→Q (.panic c) a w)) (hi:i<xs.length) (hN:Hid (xs.length=N∧ends.length=ne∧preds.length=pl)) (hNb:N≤11∧pl≤1000) (ha0:Hid (∀p∈xs[i].phis,p.args=[])) (hpr:Hid (∀q∈preds,∃d:Nat,q=(d:Int)∧d<ne)) (hev:Hid (∀e∈ends,0<e.length∧e.length≤4000)) (hph:Hid (xs[i].phis.length≤1000))
  (hexit:∀(s:Sr) (c22 c23:Value) (tl:List Value) (w':World),tl.length=251→s=(phsB ends preds xs[i].phis.length 0 xs[i].phis s0).2→(∃lab pv iv av ev,GoF w w' lab sb B s fb vals G c (xs.set i ⟨(phsB ends preds xs[i].phis.length 0 xs[i].phis s0).1,xs[i].instrs,xs[i].term⟩) pv iv av (.slice (some ⟨ge,0,none⟩) ne ce) ev ends vi ids∧PrL w w' lab pa preds)→Q (.exit 8) ⟨(.pointer (some ⟨sb,0,none⟩)::c1::c2::c3::c4::c5::c6::.pointer (some ⟨fb,0,none⟩)::c8::c9::.slice (some ⟨ge,0,none⟩) ne ce::c11::c12::c13::c14::c15::c16::c17::c18::c19::.int .i64 ((i:Nat):Int)::.slice pa pl pcap::c22::c23::tl).toArray,[]⟩ w')
  (c23:Value) (tl:List Value) (wr:World) (hl:tl.length=251) (h:Hid (∃lab pv iv av ev,GoF w wr lab sb B s0 fb vals G c (xs.set i ⟨xs[i].phis,xs[i].instrs,xs[i].term⟩) pv iv av (.slice (some ⟨ge,0,none⟩) ne ce) ev ends vi ids∧PrL w wr lab pa preds)) :
  Code.wp Tryd.prog (Code.loop gB5) Q ⟨(.pointer (some ⟨sb,0,none⟩)::c1::c2::c3::c4::c5::c6::.pointer (some ⟨fb,0,none⟩)::c8::c9::.slice (some ⟨ge,0,none⟩) ne ce::c11::c12::c13::c14::c15::c16::c17::c18::c19::.int .i64 ((i:Nat):Int)::.slice pa pl pcap::.int .i64 ((0:Nat):Int)::c23::tl).toArray,[]⟩ wr:=by
 have HX:=hide hexit
 clear hexit
 obtain ⟨M,hM⟩:∃M,M=xs[i].phis.length:=⟨_,rfl⟩
 refine wp_loop (fun a' wr=>∃x:X5,a'=⟨(.pointer (some ⟨sb,0,none⟩)::c1::c2::c3::c4::c5::c6::.pointer (some ⟨fb,0,none⟩)::c8::c9::.slice (some ⟨ge,0,none⟩) ne ce::c11::c12::c13::c14::c15::c16::c17::c18::c19::.int .i64 ((i:Nat):Int)::.slice pa pl pcap::.int .i64 ((x.j:Nat):Int)::x.c23::x.tl).toArray,[]⟩∧x.tl.length=251∧x.j+x.k=M∧Hid (phsB ends preds x.k x.j x.ps x.s=phsB ends preds xs[i].phis.length 0 xs[i].phis s0∧x.ps.length=M∧∀m (hm:m<x.ps.length),x.j≤m→x.ps[m].args=[])∧Hid (∃lab pv iv av ev,GoF w wr lab sb B x.s fb vals G c (xs.set i ⟨x.ps,xs[i].instrs,xs[i].term⟩) pv iv av (.slice (some ⟨ge,0,none⟩) ne ce) ev ends vi ids∧PrL w wr lab pa preds)) (fun a' _=>M-(intOf (a'.tmps.getD 22 undef)).toNat) ⟨⟨0,M,xs[i].phis,s0,c23,tl⟩,rfl,hl,by show 0+M=M;omega,hide ⟨by rw [hM],hM.symm,fun m hm _=>ha0.out _ (List.getElem_mem hm)⟩,h⟩ ?_
 have HM:=hide hM
 clear h hl ha0 hM
 rintro a' wr ⟨⟨j,k,ps,s,c23,tl⟩,rfl,hl,hjk,HE,HS⟩
 dsimp only at hl hjk HE HS ⊢
 conv=>arg 2;whnf
 obtain ⟨f,rfl⟩:=spr tl hl
 clear hl
 obtain ⟨lab,pv,iv,av,ev,hF,hP⟩:=HS.out
 have hi':i<(xs.set i ⟨ps,xs[i].instrs,xs[i].term⟩).length:=by simpa using hi
 have hxe:(xs.set i ⟨ps,xs[i].instrs,xs[i].term⟩)[i]=⟨ps,xs[i].instrs,xs[i].term⟩:=getElem_setSelf _ _ _ _
 have hXl:(xs.set i ⟨ps,xs[i].instrs,xs[i].term⟩).length=N:=by rw [List.length_set];exact hN.out.1
 have x1:wr.cell? ⟨fb,1,none⟩=some (.slice (some ⟨G,0,none⟩) N c):=by rw [←hXl];exact Bx.cell hF.fbx rfl
 obtain ⟨gp,cp,hpv⟩:=(hF.fn.phis i hi').form
 rw [hxe] at hpv
 have hpl:ps.length=M:=HE.out.2.1
 rw [show (⟨ps,xs[i].instrs,xs[i].term⟩:Blk).phis.length=M from hpl] at hpv
 have x2:wr.cell? ⟨G,i*6,none⟩=some (.slice gp M cp):=by
  refine hF.fn.blks.cell ?_
  unfold blksV
  have:=flatI_at (f:=fun i (x:Blk)=>bkC (pv i) (iv i) x.term) (sz:=6) (fun _ _=>rfl) 0 _ i hi' 0 (by decide)
  rw [Nat.add_zero,Nat.zero_add] at this
  rw [this,←hpv]
  rfl
 have hiN:i<N:=by have:=hN.out;omega
 have hM1:M≤1000:=by have:=hph.out;have:=HM.out;omega
 clear hF hP hpv
 cases k with
 | succ k =>
  have hltI:(j:Int)<M:=by omega
  have hjp:j<ps.length:=by omega
  have hj':j<(xs.set i ⟨ps,xs[i].instrs,xs[i].term⟩)[i].phis.length:=by rw [hxe];exact hjp
  have hxp:(xs.set i ⟨ps,xs[i].instrs,xs[i].term⟩)[i].phis[j]=ps[j]:=by simp only [hxe]
  clear hpl
  go_wp2_with fail
  refine lp6 w sb B fb vals G c (xs.set i ⟨ps,xs[i].instrs,xs[i].term⟩) ge ne ce ends vi ids pa pl pcap preds i j N s _ _ _ _ _ _ _ _ _ _ _ _ _ _ _ _ _ (by exact hide (fun c a t v w h=>hQ.out c a t v w h)) hi' hj' (hide ⟨hXl,hN.out.2⟩) hNb (hide (by rw [hxp,HE.out.2.2 j hjp (Nat.le_refl _)];simp)) hpr hev ?_ _ _ (by rfl) (hide ?_)
  ·intro s' tl w' hl hs' hfin
   obtain ⟨f,rfl⟩:=spr tl hl
   clear hl
   have HF:=hide hfin
   have HS':=hide hs'
   clear hfin hs' x1 x2
   go_wp2_with fail
   have e0:ps.getD j dPh=ps[j]:=by simp [hjp]
   have e1:phsB ends preds k (j+1) (ps.set j ⟨ps[j].dst,(argsB ends preds s ps[j].args).1⟩) (argsB ends preds s ps[j].args).2=phsB ends preds xs[i].phis.length 0 xs[i].phis s0:=by
    have:=HE.out.1
    rw [phsB,e0] at this
    exact this
   have hfin:=HF.out
   have hs2:=HS'.out
   rw [hxp] at hfin hs2
   rw [hs2] at hfin
   rw [show ((xs.set i ⟨ps,xs[i].instrs,xs[i].term⟩)).set i ((xs.set i ⟨ps,xs[i].instrs,xs[i].term⟩)[i].setPhi j ⟨ps[j].dst,(argsB ends preds s ps[j].args).1⟩)=(xs.set i ⟨(ps.set j ⟨ps[j].dst,(argsB ends preds s ps[j].args).1⟩),xs[i].instrs,xs[i].term⟩) from by rw [hxe,List.set_set];rfl] at hfin
   refine ⟨⟨⟨j+1,k,ps.set j ⟨ps[j].dst,(argsB ends preds s ps[j].args).1⟩,(argsB ends preds s ps[j].args).2,_,_⟩,rfl,rfl,(by show j+1+k=M;omega),hide ⟨e1,by show (ps.set j _).length=M;rw [List.length_set];exact HE.out.2.1,fun m hm hjm=>?_⟩,hide hfin⟩,by simp [intOf];omega⟩
   have hm':m<ps.length:=by simpa using hm
   have hjm':j+1≤m:=hjm
   show (ps.set j _)[m].args=[]
   rw [List.getElem_set_ne (by omega)]
   exact HE.out.2.2 m hm' (by omega)
  ·have hst:=HS.out
   have e3:((xs.set i ⟨ps,xs[i].instrs,xs[i].term⟩)).set i ((xs.set i ⟨ps,xs[i].instrs,xs[i].term⟩)[i].setPhi j ⟨((xs.set i ⟨ps,xs[i].instrs,xs[i].term⟩)[i].phis[j]).dst,((xs.set i ⟨ps,xs[i].instrs,xs[i].term⟩)[i].phis[j]).args⟩)=(xs.set i ⟨ps,xs[i].instrs,xs[i].term⟩):=by
    rw [hxp,hxe,List.set_set]
    show xs.set i ⟨ps.set j ps[j],xs[i].instrs,xs[i].term⟩=_
    rw [List.set_getElem_self]
   rw [e3]
   exact hst
 | zero =>
  have hltI:¬(j:Int)<M:=by omega
  clear hpl
  go_wp2_with fail
  have e1:(ps,s)=phsB ends preds xs[i].phis.length 0 xs[i].phis s0:=HE.out.1
  refine HX.out s _ _ _ _ rfl (by rw [←e1]) ?_
  rw [←e1]
  exact HS.out
end Go.Proofs.YtdfdmjcngkfciaaDoor

namespace Go.Proofs.YtdfdmjcngkfciaaDoor
open Go.RowKit
theorem preds_in:∀(xs:List Blk) (i:Nat) (b q:Int),q∈predsFrom xs i b→∃d:Nat,q=(d:Int)∧i≤d∧d<i+xs.length
 | [],_,_,_,h=>by simp [predsFrom] at h
 | x::xs,i,b,q,h=>by
  rw [predsFrom] at h
  rcases List.mem_append.1 h with h | h
  ·split at h
   ·simp only [List.mem_cons,List.not_mem_nil,or_false] at h
    exact ⟨i,h,Nat.le_refl _,by simp⟩
   ·simp at h
  ·obtain ⟨d,e,h1,h2⟩:=preds_in xs (i+1) b q h
   exact ⟨d,e,by omega,by rw [List.length_cons];omega⟩
theorem preds_le:∀(xs:List Blk) (i:Nat) (b:Int),(predsFrom xs i b).length≤xs.length
 | [],_,_=>by simp [predsFrom]
 | x::xs,i,b=>by
  rw [predsFrom,List.length_append,List.length_cons]
  have:=preds_le xs (i+1) b
  split
  ·simp only [List.length_cons,List.length_nil]
   omega
  ·simp only [List.length_nil]
   omega
structure X4 where
 i:Nat
 k:Nat
 xs:List Blk
 s:Sr
 c21:Value
 c22:Value
 c23:Value
 tl:List Value
set_option maxHeartbeats 8000000 in
set_option maxRecDepth 100000 in
theorem lp4 {Q:Exit→Act→World→Prop} (w:World) (sb B:Nat) (fb vals G c:Nat) (xs0:List Blk) (ge ne ce:Nat) (ends:List (List Int)) (vi:Value) (ids:List Int) (N:Nat) (s0:Sr) (c1 c2 c3 c4 c5 c6 c8 c9 c11 c12 c13 c14 c15 c16 c17 c18 c19:Value) (hQ:Hid (∀c (a:Act) t v w,Q (.panic c) (a.put (some t) v) w→Q (.panic c) a w)) (hN:Hid (xs0.length=N∧ends.length=ne∧ne=N)) (hNb:N≤11) (ha0:Hid (∀x∈xs0,x.phis.length≤1000∧∀p∈x.phis,p.args=[])) (hev:Hid (∀e∈ends,0<e.length∧e.length≤4000))
  (hexit:∀(s:Sr) (c21 c22 c23:Value) (tl:List Value) (w':World),tl.length=251→s=(argB ends N 0 xs0 s0).2→GoA w w' sb B ⟨(argB ends N 0 xs0 s0).1,ends,vals,s⟩ fb G c (.slice (some ⟨ge,0,none⟩) ne ce) vi ids→Q (.exit 6) ⟨(.pointer (some ⟨sb,0,none⟩)::c1::c2::c3::c4::c5::c6::.pointer (some ⟨fb,0,none⟩)::c8::c9::.slice (some ⟨ge,0,none⟩) ne ce::c11::c12::c13::c14::c15::c16::c17::c18::c19::.int .i64 ((N:Nat):Int)::c21::c22::c23::tl).toArray,[]⟩ w')
  (c21 c22 c23:Value) (tl:List Value) (wr:World) (hl:tl.length=251) (h:Hid (GoA w wr sb B ⟨xs0,ends,vals,s0⟩ fb G c (.slice (some ⟨ge,0,none⟩) ne ce) vi ids)) :
  Code.wp Tryd.prog (Code.loop gB4) Q ⟨(.pointer (some ⟨sb,0,none⟩)::c1::c2::c3::c4::c5::c6::.pointer (some ⟨fb,0,none⟩)::c8::c9::.slice (some ⟨ge,0,none⟩) ne ce::c11::c12::c13::c14::c15::c16::c17::c18::c19::.int .i64 ((0:Nat):Int)::c21::c22::c23::tl).toArray,[]⟩ wr:=by
 have HX:=hide hexit
 clear hexit
 refine wp_loop (fun a' wr=>∃x:X4,a'=⟨(.pointer (some ⟨sb,0,none⟩)::c1::c2::c3::c4::c5::c6::.pointer (some ⟨fb,0,none⟩)::c8::c9::.slice (some ⟨ge,0,none⟩) ne ce::c11::c12::c13::c14::c15::c16::c17::c18::c19::.int .i64 ((x.i:Nat):Int)::x.c21::x.c22::x.c23::x.tl).toArray,[]⟩∧x.tl.length=251∧x.i+x.k=N∧Hid (argB ends x.k x.i x.xs x.s=argB ends N 0 xs0 s0∧x.xs.length=N∧∀m (hm:m<x.xs.length),x.i≤m→x.xs[m].phis.length≤1000∧∀p∈x.xs[m].phis,p.args=[])∧Hid (GoA w wr sb B ⟨x.xs,ends,vals,x.s⟩ fb G c (.slice (some ⟨ge,0,none⟩) ne ce) vi ids)) (fun a' _=>N-(intOf (a'.tmps.getD 20 undef)).toNat) ⟨⟨0,N,xs0,s0,c21,c22,c23,tl⟩,rfl,hl,by show 0+N=N;omega,hide ⟨rfl,hN.out.1,fun m hm _=>ha0.out _ (List.getElem_mem hm)⟩,h⟩ ?_
 clear h hl ha0
 rintro a' wr ⟨⟨i,k,xs,s,c21,c22,c23,tl⟩,rfl,hl,hik,HE,HS⟩
 dsimp only at hl hik HE HS ⊢
 conv=>arg 2;whnf
 obtain ⟨f,rfl⟩:=spr tl hl
 clear hl
 obtain ⟨lab,pv,iv,av,ev,hF⟩:=HS.out
 dsimp only at hF
 have x1:wr.cell? ⟨fb,1,none⟩=some (.slice (some ⟨G,0,none⟩) N c):=by rw [←HE.out.2.1];exact Bx.cell hF.fbx rfl
 have x0:wr.cell? ⟨fb,0,none⟩=some (.int .i64 (vals:Int)):=Bx.cell hF.fbx rfl
 have HBK:=hide hF.fn.at_
 have HF:=hide hF
 clear hF
 cases k with
 | succ k =>
  have hltI:(i:Int)<N:=by omega
  have hi:i<xs.length:=by have:=HE.out;omega
  have HXL:Hid (N=xs.length):=hide HE.out.2.1.symm
  go_wp2_with fail
  refine (l1Preds_any vals (some ⟨G,0,none⟩) N c (i:Int) xs w.heap.size wr.heap.size wr HBK HXL (by omega) (Nat.le_refl _)).mono ?_
  rintro e w1 ⟨pa,pcap,rfl,hb1,hp1⟩
  have HP1:=hide (PrL.start HF.out hp1)
  have HF1:=hide (HF.out.belowF hb1)
  have hpin:=preds_in xs 0 (i:Int)
  have hple:=preds_le xs 0 (i:Int)
  have HEE:Hid (argB ends k (i+1) (xs.set i ⟨(phsB ends (predsFrom xs 0 (i:Int)) xs[i].phis.length 0 xs[i].phis s).1,xs[i].instrs,xs[i].term⟩) (phsB ends (predsFrom xs 0 (i:Int)) xs[i].phis.length 0 xs[i].phis s).2=argB ends N 0 xs0 s0):=hide (by
   have:=HE.out.1
   rw [argB,show xs.getD i dBlk=xs[i] by simp [hi]] at this
   exact this)
  obtain ⟨preds,hpr⟩:∃p,p=predsFrom xs 0 (i:Int):=⟨_,rfl⟩
  rw [←hpr] at HP1 hpin hple HEE ⊢
  obtain ⟨pl,hpl⟩:∃pl,pl=preds.length:=⟨_,rfl⟩
  rw [←hpl] at hple ⊢
  have HPL:=hide hpl
  have HPI:=hide hpin
  clear hpr hpl hpin hb1 hp1 x1 x0 HBK HF
  go_wp2_with fail
  refine lp5 w sb B fb vals G c xs ge ne ce ends vi ids pa pl pcap preds i N s _ _ _ _ _ _ _ _ _ _ _ _ _ _ _ _ _ (by exact hide (fun c a t v w h=>hQ.out c a t v w h)) hi (hide ⟨HXL.out.symm,hN.out.2.1,HPL.out.symm⟩) ⟨hNb,by have:=HXL.out;omega⟩ (hide (HE.out.2.2 i hi (Nat.le_refl _)).2) (hide (fun q hq=>by
   obtain ⟨d,e,h1,h2⟩:=HPI.out q hq
   exact ⟨d,e,by have:=hN.out;have:=HXL.out;omega⟩)) hev (hide (HE.out.2.2 i hi (Nat.le_refl _)).1) ?_ _ _ _ (by rfl) (hide ?_)
  ·intro s' c22 c23 tl w' hl hs' hfin
   obtain ⟨f,rfl⟩:=spr tl hl
   clear hl
   have HF:=hide hfin
   have HS':=hide hs'
   clear hfin hs'
   go_wp2_with fail
   obtain ⟨lab2,pv2,iv2,av2,ev2,hf2,-⟩:=HF.out
   rw [HS'.out] at hf2
   refine ⟨⟨⟨i+1,k,xs.set i ⟨(phsB ends preds xs[i].phis.length 0 xs[i].phis s).1,xs[i].instrs,xs[i].term⟩,(phsB ends preds xs[i].phis.length 0 xs[i].phis s).2,_,_,_,_⟩,rfl,rfl,(by show i+1+k=N;omega),hide ⟨HEE.out,by show (xs.set i _).length=N;rw [List.length_set];exact HE.out.2.1,fun m hm him=>?_⟩,hide ⟨lab2,pv2,iv2,av2,ev2,hf2⟩⟩,by simp [intOf];omega⟩
   have hm':m<xs.length:=by simpa using hm
   have him':i+1≤m:=him
   show (xs.set i _)[m].phis.length≤1000∧∀p∈(xs.set i _)[m].phis,p.args=[]
   rw [List.getElem_set_ne (by omega)]
   exact HE.out.2.2 m hm' (by omega)
  ·have e3:xs.set i ⟨xs[i].phis,xs[i].instrs,xs[i].term⟩=xs:=List.set_getElem_self hi
   rw [e3]
   exact ⟨_,_,_,_,_,HF1.out,HP1.out⟩
 | zero =>
  have hltI:¬(i:Int)<N:=by omega
  have hie:i=N:=by omega
  subst hie
  go_wp2_with fail
  have e1:(xs,s)=argB ends i 0 xs0 s0:=HE.out.1
  refine HX.out s _ _ _ _ _ rfl (by rw [←e1]) ?_
  rw [←e1]
  exact HS.out
end Go.Proofs.YtdfdmjcngkfciaaDoor

namespace Go.Proofs.YtdfdmjcngkfciaaDoor
open Go.RowKit
def othN (b n:Nat):Nat:=if b=0 then 0 else n-b
def othZ (b:Int) (n:Nat):Int:=if b=0 then 0 else (n:Int)-b
def turnT (n:Nat) (t:Ter):Ter:=⟨t.kind,t.a,if t.kind≠3 then othZ t.to n else t.to,if t.kind=2 then othZ t.els n else t.els⟩
def turn1 (xs:List Blk):List Blk:=(List.range xs.length).map fun b=>⟨(xs.getD (othN b xs.length) dBlk).phis,(xs.getD (othN b xs.length) dBlk).instrs,turnT xs.length (xs.getD (othN b xs.length) dBlk).term⟩
def takeA (n:Nat) (was args:List Int) (z:Int):List Int:=(List.range was.length).filterMap fun m=>if was.getD m 0=othZ z n then some (args.getD m 0) else none
def turnA (n:Nat) (was now args:List Int):List Int:=now.flatMap (takeA n was args)
def turnPh (n:Nat) (was now:List Int) (ps:List Ph):List Ph:=ps.map fun p=>⟨p.dst,turnA n was now p.args⟩
def turn2 (xs:List Blk):Nat→Nat→List Blk→List Blk
 | 0,_,g=>g
 | k+1,b,g=>turn2 xs k (b+1) (g.set b ⟨turnPh xs.length (predsFrom xs 0 (othN b xs.length:Nat)) (predsFrom g 0 (b:Int)) (g.getD b dBlk).phis,(g.getD b dBlk).instrs,(g.getD b dBlk).term⟩)
def turnP (xs:List Blk):List Blk:=turn2 xs xs.length 0 (turn1 xs)
def renI (top:Int) (x:Ins):Ins:=⟨x.op,if dB x.op=true then wrap64 (top-x.dst) else x.dst,if aB x.op=true then wrap64 (top-x.a) else x.a,if bB x.op=true then wrap64 (top-x.b) else x.b,x.imm⟩
def renT (top:Int) (t:Ter):Ter:=⟨t.kind,if t.kind≠1 then wrap64 (top-t.a) else t.a,t.to,t.els⟩
def renB (top:Int) (x:Blk):Blk:=⟨x.phis.map fun p=>⟨wrap64 (top-p.dst),p.args.map fun z=>wrap64 (top-z)⟩,x.instrs.map (renI top),renT top x.term⟩
def renP (v:Nat) (xs:List Blk):List Blk:=xs.map (renB ((v:Int)-1))
def ArgOk (xs:List Blk):Prop:=∀i (h:i<xs.length),∀p∈xs[i].phis,p.args.length=(predsFrom xs 0 (i:Int)).length
noncomputable def goodA (s:Sr) (dead:Bool):List Blk × Nat × Sr :=
 let a:=nextP s (3+s.size)
 let b:=nextP a.2 2
 let t:=skelP (a.1.toNat+1) (a.1.toNat+1) 0 b.2 []
 let d:=deadP dead (a.1.toNat+1) t.1 t.2
 let g:=blksB (b.1==0) d.2.1 d.1.length 0 ⟨d.1.map blk0,[],0,d.2.2⟩
 let h:=argB g.ends d.1.length 0 g.xs g.s
 (h.1,g.v,h.2)
noncomputable def goodP (s:Sr) (dead:Bool):Fn × Sr :=
 let g:=goodA s dead
 let p:=nextP g.2.2 3
 let q:=nextP p.2 3
 (⟨g.2.1,if q.1=0 then renP g.2.1 (if p.1=0 then turnP g.1 else g.1) else (if p.1=0 then turnP g.1 else g.1)⟩,q.2)
end Go.Proofs.YtdfdmjcngkfciaaDoor

namespace Go.Proofs.YtdfdmjcngkfciaaDoor
open Go.RowKit
def SmlB (xs:List Blk):Prop:=∀x∈xs,x.phis.length≤1000∧(∀p∈x.phis,p.args.length≤1000)∧x.instrs.length≤1000
def TerB (n:Nat) (t:Ter):Prop:=(t.kind=1∨t.kind=2∨t.kind=3)∧0≤t.to∧t.to<n∧0≤t.els∧t.els<n
def TgB (xs:List Blk):Prop:=∀x∈xs,TerB xs.length x.term
def TurnC:Prop:=∀(v:Nat) (G n c:Nat) (xs:List Blk) (lab:Nat→Nat × Nat × Nat) (base:Nat) (pv iv:Nat→Value) (av:Nat→Nat→Value) (w:World),Hid (FnL w lab base (.slice (some ⟨G,0,none⟩) n c) xs pv iv av)→Hid (n=xs.length)→base≤w.heap.size→Hid (∀b,w.heap.size≤b→lab b=(0,0,0))→Hid (ArgOk xs)→Hid (SmlB xs)→Hid (TgB xs)→1≤n→n≤11 →
 Calls Tryd.prog 49 #[.agg #[.int .i64 (v:Int),.slice (some ⟨G,0,none⟩) n c]] w fun e w'=>∃lab' G' c' pv' iv' av',e=.returned (.agg #[.int .i64 (v:Int),.slice (some ⟨G',0,none⟩) n c'])∧Below w.heap.size w w'∧FnL w' lab' base (.slice (some ⟨G',0,none⟩) n c') (turnP xs) pv' iv' av'∧(∀b,w'.heap.size≤b→lab' b=(0,0,0))∧(∀b,b<w.heap.size→lab b=(0,0,0)→lab' b=(0,0,0))
def RenC:Prop:=∀(v:Nat) (G n c:Nat) (xs:List Blk) (lab:Nat→Nat × Nat × Nat) (base:Nat) (pv iv:Nat→Value) (av:Nat→Nat→Value) (w:World),Hid (FnL w lab base (.slice (some ⟨G,0,none⟩) n c) xs pv iv av)→Hid (n=xs.length)→base≤w.heap.size→Hid (∀b,w.heap.size≤b→lab b=(0,0,0))→n≤11→v≤1000→Hid (SmlB xs) →
 Calls Tryd.prog 50 #[.agg #[.int .i64 (v:Int),.slice (some ⟨G,0,none⟩) n c]] w fun e w'=>e=.returned (.agg #[.int .i64 (v:Int),.slice (some ⟨G,0,none⟩) n c])∧Below base w w'∧FnL w' lab base (.slice (some ⟨G,0,none⟩) n c) (renP v xs) pv iv av∧(∀b,b<w.heap.size→lab b=(0,0,0)→w'.heap[b]?=w.heap[b]?)∧(∀b,w'.heap.size≤b→lab b=(0,0,0))
structure GoT (w wr:World) (lab:Nat→Nat × Nat × Nat) (sb B:Nat) (s:Sr) (fb vals G c:Nat) (xs:List Blk) (pv iv:Nat→Value) (av:Nat→Nat→Value):Prop where
 dr:DrA wr sb B s
 gr:w.grownBy wr (some sb)
 bw:B≤w.heap.size
 res:Bx wr w.heap.size #[.int .i64 0,.slice none 0 0] 25
 resl:lab w.heap.size=(0,0,0)
 fbx:Bx wr fb #[.int .i64 vals,.slice (some ⟨G,0,none⟩) xs.length c] 25
 fbl:lab fb=(0,0,0)
 fbb:w.heap.size<fb
 fn:FnL wr lab w.heap.size (.slice (some ⟨G,0,none⟩) xs.length c) xs pv iv av
 fr:∀b,wr.heap.size≤b→lab b=(0,0,0)
variable {w wr w' : World} {lab : Nat → Nat × Nat × Nat} {sb B : Nat} {s s' : Sr} {fb vals G c : Nat} {xs : List Blk} {pv iv : Nat → Value} {av : Nat → Nat → Value}
theorem GoF.toT {ve:Value} {ev:Nat→Value} {ends:List (List Int)} {vi:Value} {ids:List Int} (h:GoF w wr lab sb B s fb vals G c xs pv iv av ve ev ends vi ids):GoT w wr lab sb B s fb vals G c xs pv iv av:=⟨h.dr,h.gr,h.bw,h.res,h.resl,h.fbx,h.fbl,h.fbb,h.fn,h.fr⟩
theorem GoT.lt (h:GoT w wr lab sb B s fb vals G c xs pv iv av):sb<w.heap.size:=by have:=h.bw;have:=h.dr.bB;omega
theorem GoT.call (h:GoT w wr lab sb B s fb vals G c xs pv iv av) (g:wr.grownBy w' (some sb)) (d:DrA w' sb B s'):GoT w w' lab sb B s' fb vals G c xs pv iv av:=by
 have k:SpL wr w' lab lab w.heap.size (fun _=>True):=SpL.grown g h.lt
 exact ⟨d,grown2 h.gr g,h.bw,h.res.sp k (Nat.le_refl _) trivial,h.resl,h.fbx.sp k (Nat.le_of_lt h.fbb) trivial,h.fbl,h.fbb,h.fn.sp k 0 (fun _ _ _ _ _=>trivial) (Or.inl (fun _ _=>trivial)),k.fresh h.fr⟩
theorem GoT.low (h:GoT w wr lab sb B s fb vals G c xs pv iv av) (k:Below w.heap.size wr w'):DrA w' sb B s∧w.grownBy w' (some sb) :=
 ⟨h.dr.keep (k.mono h.bw),⟨k.os.trans h.gr.os,k.tape.trans h.gr.tape,k.output.trans h.gr.output,Nat.le_trans h.gr.size k.size,fun b h1 h2=>(k.block b h1).trans (h.gr.block b h1 h2)⟩⟩
theorem turn2_len (xs:List Blk):∀(k b:Nat) (g:List Blk),(turn2 xs k b g).length=g.length
 | 0,_,_=>rfl
 | k+1,b,g=>by rw [turn2,turn2_len];simp
theorem turn_len (xs:List Blk):(turnP xs).length=xs.length:=by unfold turnP;rw [turn2_len];simp [turn1]
theorem ren_len (v:Nat) (xs:List Blk):(renP v xs).length=xs.length:=by simp [renP]
theorem GoT.turned {lab':Nat→Nat × Nat × Nat} {G' c':Nat} {pv' iv':Nat→Value} {av':Nat→Nat→Value} (h:GoT w wr lab sb B s fb vals G c xs pv iv av) (hb:Below wr.heap.size wr w') (hf:FnL w' lab' w.heap.size (.slice (some ⟨G',0,none⟩) xs.length c') (turnP xs) pv' iv' av') (h0:∀b,w'.heap.size≤b→lab' b=(0,0,0)) (hl:∀b,b<wr.heap.size→lab b=(0,0,0)→lab' b=(0,0,0)) :
  GoT w ((w'.setCell ⟨fb,0,none⟩ (.int .i64 vals)).setCell ⟨fb,1,none⟩ (.slice (some ⟨G',0,none⟩) xs.length c')) lab' sb B s fb vals G' c' (turnP xs) pv' iv' av':=by
 have hlo:=h.low (hb.mono h.gr.size)
 have hfb:Bx w' fb #[.int .i64 vals,.slice (some ⟨G,0,none⟩) xs.length c] 25:=h.fbx.keep (hb.block _ h.fbx.lt)
 have hfl:=hl fb h.fbx.lt h.fbl
 have k1:SpL w' ((w'.setCell ⟨fb,0,none⟩ (.int .i64 vals)).setCell ⟨fb,1,none⟩ (.slice (some ⟨G',0,none⟩) xs.length c')) lab' lab' w.heap.size (fun b=>b≠fb):=((SpL.put fb _ _).trans (SpL.put fb _ _)).weak (fun _ hb=>⟨hb,hb⟩)
 have nb:∀b,(lab' b).1≠0→b≠fb:=fun b h1 e=>h1 (by rw [e,hfl])
 have hw:=h.bw
 have hfbb:=h.fbb
 refine ⟨(hlo.1.put (by omega)).put (by omega),grown_put (grown_put hlo.2 (by omega)) (by omega),h.bw,((h.res.keep (hb.block _ h.res.lt)).other (by omega)).other (by omega),hl _ h.res.lt h.resl,?_,hfl,h.fbb,?_,k1.fresh h0⟩
 ·rw [turn_len]
  have:=(hfb.set 0 (.int .i64 vals)).set 1 (.slice (some ⟨G',0,none⟩) xs.length c')
  simpa using this
 ·rw [turn_len]
  exact hf.sp k1 0 (fun b h1 _ _ _=>nb b h1) (Or.inl (fun b e=>nb b (by rcases e with e | e<;>rw [e]<;>simp)))
theorem GoT.renamed (h:GoT w wr lab sb B s fb vals G c xs pv iv av) (hb:Below w.heap.size wr w') (hf:FnL w' lab w.heap.size (.slice (some ⟨G,0,none⟩) xs.length c) (renP vals xs) pv iv av) (hk:∀b,b<wr.heap.size→lab b=(0,0,0)→w'.heap[b]?=wr.heap[b]?) (h0:∀b,w'.heap.size≤b→lab b=(0,0,0)) :
  GoT w ((w'.setCell ⟨fb,0,none⟩ (.int .i64 vals)).setCell ⟨fb,1,none⟩ (.slice (some ⟨G,0,none⟩) xs.length c)) lab sb B s fb vals G c (renP vals xs) pv iv av:=by
 have hlo:=h.low hb
 have hfb:Bx w' fb #[.int .i64 vals,.slice (some ⟨G,0,none⟩) xs.length c] 25:=h.fbx.keep (hk _ h.fbx.lt h.fbl)
 have k1:SpL w' ((w'.setCell ⟨fb,0,none⟩ (.int .i64 vals)).setCell ⟨fb,1,none⟩ (.slice (some ⟨G,0,none⟩) xs.length c)) lab lab w.heap.size (fun b=>b≠fb):=((SpL.put fb _ _).trans (SpL.put fb _ _)).weak (fun _ hb=>⟨hb,hb⟩)
 have nb:∀b,(lab b).1≠0→b≠fb:=fun b h1 e=>h1 (by rw [e,h.fbl])
 have hw:=h.bw
 have hfbb:=h.fbb
 refine ⟨(hlo.1.put (by omega)).put (by omega),grown_put (grown_put hlo.2 (by omega)) (by omega),h.bw,((h.res.keep (hk _ h.res.lt h.resl)).other (by omega)).other (by omega),h.resl,?_,h.fbl,h.fbb,?_,k1.fresh h0⟩
 ·rw [ren_len]
  have:=(hfb.set 0 (.int .i64 vals)).set 1 (.slice (some ⟨G,0,none⟩) xs.length c)
  simpa using this
 ·rw [ren_len]
  exact hf.sp k1 0 (fun b h1 _ _ _=>nb b h1) (Or.inl (fun b e=>nb b (by rcases e with e | e<;>rw [e]<;>simp)))
end Go.Proofs.YtdfdmjcngkfciaaDoor
