import Derived.Test.YtkehcdfalcakmaaGreatDoorDL6
import Derived.Test.YtkehcdfalcakmaaGreatDoorDL1
namespace Go.Proofs.YtkehcdfalcakmaaGreatDoor
set_option maxHeartbeats 8000000
set_option maxRecDepth 100000
open Go.RowKit
structure X5 where
 j:Nat
 k:Nat
 ps:List Ph
 s:Sr
 c23:Value
 tl:List Value
theorem lp5{Q:Exit->Act->World->Prop}(w:World)(sb B:Nat)(fb vals G c:Nat)(xs:List Xf)(ge ne ce:Nat)(ends:List (List Int))(vi:Value)(ids:List Int)(pa:Option Addr)(pl pcap:Nat)(preds:List Int)(i N:Nat)(s0:Sr)(c1 c2 c3 c4 c5 c6 c8 c9 c11 c12 c13 c14 c15 c16 c17 c18 c19:Value)(hQ:Hid (∀c (a:Act) t v w,Q (.panic c) (a.put (some t) v) w->Q (.panic c) a w))(hi:i<xs.length)(hN:Hid (xs.length=N/\ends.length=ne/\preds.length=pl))(hNb:N<=11/\pl<=1000)(ha0:Hid (∀p∈xs[i].phis,p.args=[]))(hpr:Hid (∀q∈preds,∃d:Nat,q=(d:Int)/\d<ne))(hev:Hid (∀e∈ends,0<e.length/\e.length<=4000))(hph:Hid (xs[i].phis.length<=1000))
 (hexit:∀(s:Sr)(c22 c23:Value)(tl:List Value)(w':World),tl.length=251->s=(J3 ends preds xs[i].phis.length 0 xs[i].phis s0).2->(∃lab pv iv av ev,J6 w w' lab sb B s fb vals G c (xs.set i ⟨(J3 ends preds xs[i].phis.length 0 xs[i].phis s0).1,xs[i].instrs,xs[i].term⟩) pv iv av (.slice (some ⟨ge,0,none⟩) ne ce) ev ends vi ids/\PrL w w' lab pa preds)->Q (.exit 8) ⟨(.pointer (some ⟨sb,0,none⟩)::c1::c2::c3::c4::c5::c6::.pointer (some ⟨fb,0,none⟩)::c8::c9::.slice (some ⟨ge,0,none⟩) ne ce::c11::c12::c13::c14::c15::c16::c17::c18::c19::.int .i64 ((i:Nat):Int)::.slice pa pl pcap::c22::c23::tl).toArray,[]⟩ w')
 (c23:Value) (tl:List Value) (wr:World) (hl:tl.length=251) (h:Hid (∃lab pv iv av ev,J6 w wr lab sb B s0 fb vals G c (xs.set i ⟨xs[i].phis,xs[i].instrs,xs[i].term⟩) pv iv av (.slice (some ⟨ge,0,none⟩) ne ce) ev ends vi ids/\PrL w wr lab pa preds)) :
 Code.wp Tryz.prog (Code.loop gB5) Q ⟨(.pointer (some ⟨sb,0,none⟩)::c1::c2::c3::c4::c5::c6::.pointer (some ⟨fb,0,none⟩)::c8::c9::.slice (some ⟨ge,0,none⟩) ne ce::c11::c12::c13::c14::c15::c16::c17::c18::c19::.int .i64 ((i:Nat):Int)::.slice pa pl pcap::.int .i64 ((0:Nat):Int)::c23::tl).toArray,[]⟩ wr:=by
 have HX:=Xa hexit;clear hexit;obtain⟨M,hM⟩:∃M,M=xs[i].phis.length:=⟨_,rfl⟩;refine wp_loop (fun a' wr=>∃x:X5,a'=⟨(.pointer (some ⟨sb,0,none⟩)::c1::c2::c3::c4::c5::c6::.pointer (some ⟨fb,0,none⟩)::c8::c9::.slice (some ⟨ge,0,none⟩) ne ce::c11::c12::c13::c14::c15::c16::c17::c18::c19::.int .i64 ((i:Nat):Int)::.slice pa pl pcap::.int .i64 ((x.j:Nat):Int)::x.c23::x.tl).toArray,[]⟩/\x.tl.length=251/\x.j+x.k=M/\Hid (J3 ends preds x.k x.j x.ps x.s=J3 ends preds xs[i].phis.length 0 xs[i].phis s0/\x.ps.length=M/\∀m (hm:m<x.ps.length),x.j<=m->x.ps[m].args=[])/\Hid (∃lab pv iv av ev,J6 w wr lab sb B x.s fb vals G c (xs.set i ⟨x.ps,xs[i].instrs,xs[i].term⟩) pv iv av (.slice (some ⟨ge,0,none⟩) ne ce) ev ends vi ids/\PrL w wr lab pa preds)) (fun a' _=>M-(intOf (a'.tmps.getD 22 undef)).toNat) ⟨⟨0,M,xs[i].phis,s0,c23,tl⟩,rfl,hl,by show 0+M=M;omega,Xa ⟨by rw[hM],hM.symm,fun m hm _=>ha0.out _ (List.getElem_mem hm)⟩,h⟩ ?_;have HM:=Xa hM;clear h hl ha0 hM;rintro a' wr ⟨⟨j,k,ps,s,c23,tl⟩,rfl,hl,hjk,HE,HS⟩;dsimp only at hl hjk HE HS |-
 conv=>arg 2;whnf
 obtain⟨f,rfl⟩:=spr tl hl;clear hl;obtain⟨lab,pv,iv,av,ev,hF,hP⟩:=HS.out;have hi':i<(xs.set i ⟨ps,xs[i].instrs,xs[i].term⟩).length:=by simpa using hi
 have hxe:(xs.set i ⟨ps,xs[i].instrs,xs[i].term⟩)[i]=⟨ps,xs[i].instrs,xs[i].term⟩:=Xe _ _ _ _;have hXl:(xs.set i ⟨ps,xs[i].instrs,xs[i].term⟩).length=N:=by rw[List.length_set];exact hN.1
 have x1:wr.cell? ⟨fb,1,none⟩=some (.slice (some ⟨G,0,none⟩) N c):=by rw[<-hXl];exact Bx.cell hF.fbx rfl
 obtain⟨gp,cp,hpv⟩:=(hF.fn.phis i hi').form;rw[hxe]at hpv;have hpl:ps.length=M:=HE.2.1;rw[show(⟨ps,xs[i].instrs,xs[i].term⟩:Xf).phis.length=M from hpl]at hpv;have x2:wr.cell? ⟨G,i*6,none⟩=some (.slice gp M cp):=by
  refine hF.fn.blks.cell ?_;unfold Xy;have:=Xu (f:=fun i (x:Xf)=>Tk (pv i) (iv i) x.term) (sz:=6) (fun _ _=>rfl) 0 _ i hi' 0 (by decide);rw[Nat.add_zero,Nat.zero_add]at this;rw[this,<-hpv];rfl
 have hiN:i<N:=by have:=hN.out;omega
 have hM1:M<=1000:=by have:=hph.out;have:=HM.out;omega
 clear hF hP hpv;cases k with
 | succ k =>
  have hltI:(j:Int)<M:=by omega
  have hjp:j<ps.length:=by omega
  have hj':j<(xs.set i ⟨ps,xs[i].instrs,xs[i].term⟩)[i].phis.length:=by rw[hxe];exact hjp
  have hxp:(xs.set i ⟨ps,xs[i].instrs,xs[i].term⟩)[i].phis[j]=ps[j]:=by simp only[hxe]
  clear hpl
  go_wp2_with fail
  refine lp6 w sb B fb vals G c (xs.set i ⟨ps,xs[i].instrs,xs[i].term⟩) ge ne ce ends vi ids pa pl pcap preds i j N s _ _ _ _ _ _ _ _ _ _ _ _ _ _ _ _ _ (by exact Xa (fun c a t v w h=>hQ.out c a t v w h)) hi' hj' (Xa ⟨hXl,hN.2⟩) hNb (Xa (by rw[hxp,HE.2.2 j hjp (Nat.le_refl _)];simp)) hpr hev ?_ _ _ (by rfl) (Xa ?_)
  ·intro s' tl w' hl hs' hfin
   obtain⟨f,rfl⟩:=spr tl hl;clear hl;have HF:=Xa hfin;have HS':=Xa hs';clear hfin hs' x1 x2
   go_wp2_with fail
   have e0:ps.getD j UY=ps[j]:=by simp[hjp]
   have e1:J3 ends preds k (j+1) (ps.set j ⟨ps[j].dst,(Z4 ends preds s ps[j].args).1⟩) (Z4 ends preds s ps[j].args).2=J3 ends preds xs[i].phis.length 0 xs[i].phis s0:=by
    have:=HE.1;rw[J3,e0]at this;exact this
   have hfin:=HF.out;have hs2:=HS'.out;rw[hxp]at hfin hs2;rw[hs2]at hfin;rw[show((xs.set i ⟨ps,xs[i].instrs,xs[i].term⟩)).set i ((xs.set i ⟨ps,xs[i].instrs,xs[i].term⟩)[i].setPhi j ⟨ps[j].dst,(Z4 ends preds s ps[j].args).1⟩)=(xs.set i ⟨(ps.set j ⟨ps[j].dst,(Z4 ends preds s ps[j].args).1⟩),xs[i].instrs,xs[i].term⟩) from by rw[hxe,List.set_set];rfl]at hfin;refine⟨⟨⟨j+1,k,ps.set j ⟨ps[j].dst,(Z4 ends preds s ps[j].args).1⟩,(Z4 ends preds s ps[j].args).2,_,_⟩,rfl,rfl,(by show j+1+k=M;omega),Xa ⟨e1,by show(ps.set j _).length=M;rw[List.length_set];exact HE.2.1,fun m hm hjm=>?_⟩,Xa hfin⟩,by simp[intOf];omega⟩;have hm':m<ps.length:=by simpa using hm
   have hjm':j+1<=m:=hjm;show(ps.set j _)[m].args=[];rw[List.getElem_set_ne (by omega)];exact HE.2.2 m hm' (by omega)
  ·have hst:=HS.out
   have e3:((xs.set i ⟨ps,xs[i].instrs,xs[i].term⟩)).set i ((xs.set i ⟨ps,xs[i].instrs,xs[i].term⟩)[i].setPhi j ⟨((xs.set i ⟨ps,xs[i].instrs,xs[i].term⟩)[i].phis[j]).dst,((xs.set i ⟨ps,xs[i].instrs,xs[i].term⟩)[i].phis[j]).args⟩)=(xs.set i ⟨ps,xs[i].instrs,xs[i].term⟩):=by
    rw[hxp,hxe,List.set_set];show xs.set i ⟨ps.set j ps[j],xs[i].instrs,xs[i].term⟩=_;rw[List.set_getElem_self]
   rw[e3];exact hst
 | zero =>
  have hltI:¬(j:Int)<M:=by omega
  clear hpl
  go_wp2_with fail
  have e1:(ps,s)=J3 ends preds xs[i].phis.length 0 xs[i].phis s0:=HE.1;refine HX.out s _ _ _ _ rfl (by rw[<-e1]) ?_;rw[<-e1];exact HS.out
theorem Zbt:∀(xs:List Xf)(i:Nat)(b q:Int),q∈predsFrom xs i b->∃d:Nat,q=(d:Int)/\i<=d/\d<i+xs.length
 | [],_,_,_,h=>by simp[predsFrom]at h
 | x::xs,i,b,q,h=>by
  rw[predsFrom]at h;rcases List.mem_append.1 h with h | h
  ·split at h
   ·simp only[List.mem_cons,List.not_mem_nil,or_false]at h
    exact⟨i,h,Nat.le_refl _,by simp⟩
   ·simp at h
  ·obtain⟨d,e,h1,h2⟩:=Zbt xs (i+1) b q h
   exact⟨d,e,by omega,by rw[List.length_cons];omega⟩
theorem Jv:∀(xs:List Xf)(i:Nat)(b:Int),(predsFrom xs i b).length<=xs.length
 | [],_,_=>by simp[predsFrom]
 | x::xs,i,b=>by
  rw[predsFrom,List.length_append,List.length_cons];have:=Jv xs (i+1) b;split
  ·simp only[List.length_cons,List.length_nil]
   omega
  ·simp only[List.length_nil]
   omega
structure X4 where
 i:Nat
 k:Nat
 xs:List Xf
 s:Sr
 c21:Value
 c22:Value
 c23:Value
 tl:List Value
theorem lp4{Q:Exit->Act->World->Prop}(w:World)(sb B:Nat)(fb vals G c:Nat)(xs0:List Xf)(ge ne ce:Nat)(ends:List (List Int))(vi:Value)(ids:List Int)(N:Nat)(s0:Sr)(c1 c2 c3 c4 c5 c6 c8 c9 c11 c12 c13 c14 c15 c16 c17 c18 c19:Value)(hQ:Hid (∀c (a:Act) t v w,Q (.panic c) (a.put (some t) v) w->Q (.panic c) a w))(hN:Hid (xs0.length=N/\ends.length=ne/\ne=N))(hNb:N<=11)(ha0:Hid (∀x∈xs0,x.phis.length<=1000/\∀p∈x.phis,p.args=[]))(hev:Hid (∀e∈ends,0<e.length/\e.length<=4000))
 (hexit:∀(s:Sr)(c21 c22 c23:Value)(tl:List Value)(w':World),tl.length=251->s=(Z6 ends N 0 xs0 s0).2->GoA w w' sb B ⟨(Z6 ends N 0 xs0 s0).1,ends,vals,s⟩ fb G c (.slice (some ⟨ge,0,none⟩) ne ce) vi ids->Q (.exit 6) ⟨(.pointer (some ⟨sb,0,none⟩)::c1::c2::c3::c4::c5::c6::.pointer (some ⟨fb,0,none⟩)::c8::c9::.slice (some ⟨ge,0,none⟩) ne ce::c11::c12::c13::c14::c15::c16::c17::c18::c19::.int .i64 ((N:Nat):Int)::c21::c22::c23::tl).toArray,[]⟩ w')
 (c21 c22 c23:Value) (tl:List Value) (wr:World) (hl:tl.length=251) (h:Hid (GoA w wr sb B ⟨xs0,ends,vals,s0⟩ fb G c (.slice (some ⟨ge,0,none⟩) ne ce) vi ids)) :
 Code.wp Tryz.prog (Code.loop gB4) Q ⟨(.pointer (some ⟨sb,0,none⟩)::c1::c2::c3::c4::c5::c6::.pointer (some ⟨fb,0,none⟩)::c8::c9::.slice (some ⟨ge,0,none⟩) ne ce::c11::c12::c13::c14::c15::c16::c17::c18::c19::.int .i64 ((0:Nat):Int)::c21::c22::c23::tl).toArray,[]⟩ wr:=by
 have HX:=Xa hexit;clear hexit;refine wp_loop (fun a' wr=>∃x:X4,a'=⟨(.pointer (some ⟨sb,0,none⟩)::c1::c2::c3::c4::c5::c6::.pointer (some ⟨fb,0,none⟩)::c8::c9::.slice (some ⟨ge,0,none⟩) ne ce::c11::c12::c13::c14::c15::c16::c17::c18::c19::.int .i64 ((x.i:Nat):Int)::x.c21::x.c22::x.c23::x.tl).toArray,[]⟩/\x.tl.length=251/\x.i+x.k=N/\Hid (Z6 ends x.k x.i x.xs x.s=Z6 ends N 0 xs0 s0/\x.xs.length=N/\∀m (hm:m<x.xs.length),x.i<=m->x.xs[m].phis.length<=1000/\∀p∈x.xs[m].phis,p.args=[])/\Hid (GoA w wr sb B ⟨x.xs,ends,vals,x.s⟩ fb G c (.slice (some ⟨ge,0,none⟩) ne ce) vi ids)) (fun a' _=>N-(intOf (a'.tmps.getD 20 undef)).toNat) ⟨⟨0,N,xs0,s0,c21,c22,c23,tl⟩,rfl,hl,by show 0+N=N;omega,Xa ⟨rfl,hN.1,fun m hm _=>ha0.out _ (List.getElem_mem hm)⟩,h⟩ ?_;clear h hl ha0;rintro a' wr ⟨⟨i,k,xs,s,c21,c22,c23,tl⟩,rfl,hl,hik,HE,HS⟩;dsimp only at hl hik HE HS |-
 conv=>arg 2;whnf
 obtain⟨f,rfl⟩:=spr tl hl;clear hl;obtain⟨lab,pv,iv,av,ev,hF⟩:=HS.out;dsimp only at hF;have x1:wr.cell? ⟨fb,1,none⟩=some (.slice (some ⟨G,0,none⟩) N c):=by rw[<-HE.2.1];exact Bx.cell hF.fbx rfl
 have x0:wr.cell? ⟨fb,0,none⟩=some (.int .i64 (vals:Int)):=Bx.cell hF.fbx rfl;have HBK:=Xa hF.fn.at_;have HF:=Xa hF;clear hF;cases k with
 | succ k =>
  have hltI:(i:Int)<N:=by omega
  have hi:i<xs.length:=by have:=HE.out;omega
  have HXL:Hid (N=xs.length):=Xa HE.2.1.symm
  go_wp2_with fail
  refine(ZX vals (some ⟨G,0,none⟩) N c (i:Int) xs w.heap.size wr.heap.size wr HBK HXL (by omega) (Nat.le_refl _)).mono ?_;rintro e w1 ⟨pa,pcap,rfl,hb1,hp1⟩;have HP1:=Xa (PrL.start HF.out hp1);have HF1:=Xa (HF.belowF hb1);have hpin:=Zbt xs 0 (i:Int);have hple:=Jv xs 0 (i:Int);have HEE:Hid (Z6 ends k (i+1) (xs.set i ⟨(J3 ends (predsFrom xs 0 (i:Int)) xs[i].phis.length 0 xs[i].phis s).1,xs[i].instrs,xs[i].term⟩) (J3 ends (predsFrom xs 0 (i:Int)) xs[i].phis.length 0 xs[i].phis s).2=Z6 ends N 0 xs0 s0):=Xa (by
   have:=HE.1;rw[Z6,show xs.getD i XL=xs[i] by simp[hi]]at this;exact this)
  obtain⟨preds,hpr⟩:∃p,p=predsFrom xs 0 (i:Int):=⟨_,rfl⟩;rw[<-hpr]at HP1 hpin hple HEE |-;obtain⟨pl,hpl⟩:∃pl,pl=preds.length:=⟨_,rfl⟩;rw[<-hpl]at hple |-;have HPL:=Xa hpl;have HPI:=Xa hpin;clear hpr hpl hpin hb1 hp1 x1 x0 HBK HF
  go_wp2_with fail
  refine lp5 w sb B fb vals G c xs ge ne ce ends vi ids pa pl pcap preds i N s _ _ _ _ _ _ _ _ _ _ _ _ _ _ _ _ _ (by exact Xa (fun c a t v w h=>hQ.out c a t v w h)) hi (Xa ⟨HXL.symm,hN.2.1,HPL.symm⟩) ⟨hNb,by have:=HXL.out;omega⟩ (Xa (HE.2.2 i hi (Nat.le_refl _)).2) (Xa (fun q hq=>by
   obtain⟨d,e,h1,h2⟩:=HPI.out q hq;exact⟨d,e,by have:=hN.out;have:=HXL.out;omega⟩)) hev (Xa (HE.2.2 i hi (Nat.le_refl _)).1) ?_ _ _ _ (by rfl) (Xa ?_)
  ·intro s' c22 c23 tl w' hl hs' hfin
   obtain⟨f,rfl⟩:=spr tl hl;clear hl;have HF:=Xa hfin;have HS':=Xa hs';clear hfin hs'
   go_wp2_with fail
   obtain⟨lab2,pv2,iv2,av2,ev2,hf2,-⟩:=HF.out;rw[HS'.out]at hf2;refine⟨⟨⟨i+1,k,xs.set i ⟨(J3 ends preds xs[i].phis.length 0 xs[i].phis s).1,xs[i].instrs,xs[i].term⟩,(J3 ends preds xs[i].phis.length 0 xs[i].phis s).2,_,_,_,_⟩,rfl,rfl,(by show i+1+k=N;omega),Xa ⟨HEE.out,by show(xs.set i _).length=N;rw[List.length_set];exact HE.2.1,fun m hm him=>?_⟩,Xa ⟨lab2,pv2,iv2,av2,ev2,hf2⟩⟩,by simp[intOf];omega⟩;have hm':m<xs.length:=by simpa using hm
   have him':i+1<=m:=him;show(xs.set i _)[m].phis.length<=1000/\∀p∈(xs.set i _)[m].phis,p.args=[];rw[List.getElem_set_ne (by omega)];exact HE.2.2 m hm' (by omega)
  ·have e3:xs.set i ⟨xs[i].phis,xs[i].instrs,xs[i].term⟩=xs:=List.set_getElem_self hi
   rw[e3];exact⟨_,_,_,_,_,HF1.out,HP1.out⟩
 | zero =>
  have hltI:¬(i:Int)<N:=by omega
  have hie:i=N:=by omega
  subst hie
  go_wp2_with fail
  have e1:(xs,s)=Z6 ends i 0 xs0 s0:=HE.1;refine HX.out s _ _ _ _ _ rfl (by rw[<-e1]) ?_;rw[<-e1];exact HS.out
end Go.Proofs.YtkehcdfalcakmaaGreatDoor
namespace Go.Proofs.YtkehcdfalcakmaaGreatDoor
open Go.RowKit
def othN(b n:Nat):Nat:=if b=0 then 0 else n-b
def Jo(b:Int)(n:Nat):Int:=if b=0 then 0 else (n:Int)-b
def Yp(n:Nat)(t:XN):XN:=⟨t.kind,t.a,if t.kind≠3 then Jo t.to n else t.to,if t.kind=2 then Jo t.els n else t.els⟩
def Y6(xs:List Xf):List Xf:=(List.range xs.length).map fun b=>⟨(xs.getD (othN b xs.length) XL).phis,(xs.getD (othN b xs.length) XL).instrs,Yp xs.length (xs.getD (othN b xs.length) XL).term⟩
def UV(n:Nat)(was args:List Int)(z:Int):List Int:=(List.range was.length).filterMap fun m=>if was.getD m 0=Jo z n then some (args.getD m 0)else none
def J4(n:Nat)(was now args:List Int):List Int:=now.flatMap (UV n was args)
def Yq(n:Nat)(was now:List Int)(ps:List Ph):List Ph:=ps.map fun p=>⟨p.dst,J4 n was now p.args⟩
def JT(xs:List Xf):Nat->Nat->List Xf->List Xf
 | 0,_,g=>g
 | k+1,b,g=>JT xs k (b+1) (g.set b ⟨Yq xs.length (predsFrom xs 0 (othN b xs.length:Nat)) (predsFrom g 0 (b:Int)) (g.getD b XL).phis,(g.getD b XL).instrs,(g.getD b XL).term⟩)
def YM(xs:List Xf):List Xf:=JT xs xs.length 0 (Y6 xs)
def renI(top:Int)(x:Xz):Xz:=⟨x.op,if dB x.op=true then wrap64 (top-x.dst)else x.dst,if aB x.op=true then wrap64 (top-x.a)else x.a,if bB x.op=true then wrap64 (top-x.b)else x.b,x.imm⟩
def Zhu(top:Int)(t:XN):XN:=⟨t.kind,if t.kind≠1 then wrap64 (top-t.a)else t.a,t.to,t.els⟩
def ZU(top:Int)(x:Xf):Xf:=⟨x.phis.map fun p=>⟨wrap64 (top-p.dst),p.args.map fun z=>wrap64 (top-z)⟩,x.instrs.map (renI top),Zhu top x.term⟩
def K6(v:Nat)(xs:List Xf):List Xf:=xs.map (ZU ((v:Int)-1))
def WJ(xs:List Xf):Prop:=∀i (h:i<xs.length),∀p∈xs[i].phis,p.args.length=(predsFrom xs 0 (i:Int)).length
noncomputable def Zbk(s:Sr)(dead:Bool):List Xf × Nat × Sr :=
 let a:=nextP s (3+s.size)
 let b:=nextP a.2 2
 let t:=Jr (a.1.toNat+1) (a.1.toNat+1) 0 b.2 []
 let d:=Z8 dead (a.1.toNat+1) t.1 t.2
 let g:=YR (b.1==0) d.2.1 d.1.length 0 ⟨d.1.map Yf,[],0,d.2.2⟩
 let h:=Z6 g.ends d.1.length 0 g.xs g.s
 (h.1,g.v,h.2)
noncomputable def XA(s:Sr)(dead:Bool):Fn × Sr :=
 let g:=Zbk s dead
 let p:=nextP g.2.2 3
 let q:=nextP p.2 3
 (⟨g.2.1,if q.1=0 then K6 g.2.1 (if p.1=0 then YM g.1 else g.1)else (if p.1=0 then YM g.1 else g.1)⟩,q.2)
end Go.Proofs.YtkehcdfalcakmaaGreatDoor
namespace Go.Proofs.YtkehcdfalcakmaaGreatDoor
open Go.RowKit
def JK(xs:List Xf):Prop:=∀x∈xs,x.phis.length<=1000/\(∀p∈x.phis,p.args.length<=1000)/\x.instrs.length<=1000
def Zby(n:Nat)(t:XN):Prop:=(t.kind=1\/t.kind=2\/t.kind=3)/\0<=t.to/\t.to<n/\0<=t.els/\t.els<n
def TgB(xs:List Xf):Prop:=∀x∈xs,Zby xs.length x.term
def Zhh:Prop:=∀(v:Nat)(G n c:Nat)(xs:List Xf)(lab:Nat->Nat × Nat × Nat)(base:Nat)(pv iv:Nat->Value)(av:Nat->Nat->Value)(w:World),Hid (Z5 w lab base (.slice (some ⟨G,0,none⟩) n c) xs pv iv av)->Hid (n=xs.length)->base<=w.heap.size->Hid (∀b,w.heap.size<=b->lab b=(0,0,0))->Hid (WJ xs)->Hid (JK xs)->Hid (TgB xs)->1<=n->n<=11 ->
 Calls Tryz.prog 75 #[.agg #[.int .i64 (v:Int),.slice (some ⟨G,0,none⟩) n c]] w fun e w'=>∃lab' G' c' pv' iv' av',e=.returned (.agg #[.int .i64 (v:Int),.slice (some ⟨G',0,none⟩) n c'])/\Below w.heap.size w w'/\Z5 w' lab' base (.slice (some ⟨G',0,none⟩) n c') (YM xs) pv' iv' av'/\(∀b,w'.heap.size<=b->lab' b=(0,0,0))/\(∀b,b<w.heap.size->lab b=(0,0,0)->lab' b=(0,0,0))
def Zi3:Prop:=∀(v:Nat)(G n c:Nat)(xs:List Xf)(lab:Nat->Nat × Nat × Nat)(base:Nat)(pv iv:Nat->Value)(av:Nat->Nat->Value)(w:World),Hid (Z5 w lab base (.slice (some ⟨G,0,none⟩) n c) xs pv iv av)->Hid (n=xs.length)->base<=w.heap.size->Hid (∀b,w.heap.size<=b->lab b=(0,0,0))->n<=11->v<=1000->Hid (JK xs) ->
 Calls Tryz.prog 76 #[.agg #[.int .i64 (v:Int),.slice (some ⟨G,0,none⟩) n c]] w fun e w'=>e=.returned (.agg #[.int .i64 (v:Int),.slice (some ⟨G,0,none⟩) n c])/\Below base w w'/\Z5 w' lab base (.slice (some ⟨G,0,none⟩) n c) (K6 v xs) pv iv av/\(∀b,b<w.heap.size->lab b=(0,0,0)->w'.heap[b]?=w.heap[b]?)/\(∀b,w'.heap.size<=b->lab b=(0,0,0))
structure GoT(w wr:World)(lab:Nat->Nat × Nat × Nat)(sb B:Nat)(s:Sr)(fb vals G c:Nat)(xs:List Xf)(pv iv:Nat->Value)(av:Nat->Nat->Value):Prop where
 dr:Zs wr sb B s
 gr:w.grownBy wr (some sb)
 bw:B<=w.heap.size
 res:Bx wr w.heap.size #[.int .i64 0,.slice none 0 0] 25
 resl:lab w.heap.size=(0,0,0)
 fbx:Bx wr fb #[.int .i64 vals,.slice (some ⟨G,0,none⟩) xs.length c] 25
 fbl:lab fb=(0,0,0)
 fbb:w.heap.size<fb
 fn:Z5 wr lab w.heap.size (.slice (some ⟨G,0,none⟩) xs.length c) xs pv iv av
 fr:∀b,wr.heap.size<=b->lab b=(0,0,0)
variable {w wr w' : World} {lab : Nat -> Nat × Nat × Nat} {sb B : Nat} {s s' : Sr} {fb vals G c : Nat} {xs : List Xf} {pv iv : Nat -> Value} {av : Nat -> Nat -> Value}
theorem J6.toT{ve:Value}{ev:Nat->Value}{ends:List (List Int)}{vi:Value}{ids:List Int}(h:J6 w wr lab sb B s fb vals G c xs pv iv av ve ev ends vi ids):GoT w wr lab sb B s fb vals G c xs pv iv av:=⟨h.dr,h.gr,h.bw,h.res,h.resl,h.fbx,h.fbl,h.fbb,h.fn,h.fr⟩
theorem GoT.lt(h:GoT w wr lab sb B s fb vals G c xs pv iv av):sb<w.heap.size:=by have:=h.bw;have:=h.dr.bB;omega
theorem GoT.call(h:GoT w wr lab sb B s fb vals G c xs pv iv av)(g:wr.grownBy w' (some sb))(d:Zs w' sb B s'):GoT w w' lab sb B s' fb vals G c xs pv iv av:=by
 have k:XK wr w' lab lab w.heap.size (fun _=>True):=XK.grown g h.lt;exact⟨d,Yi h.gr g,h.bw,h.res.sp k (Nat.le_refl _) trivial,h.resl,h.fbx.sp k (Nat.le_of_lt h.fbb) trivial,h.fbl,h.fbb,h.fn.sp k 0 (fun _ _ _ _ _=>trivial) (Or.inl (fun _ _=>trivial)),k.fresh h.fr⟩
theorem GoT.low(h:GoT w wr lab sb B s fb vals G c xs pv iv av)(k:Below w.heap.size wr w'):Zs w' sb B s/\w.grownBy w' (some sb) :=
 ⟨h.dr.keep (k.mono h.bw),⟨k.os.trans h.gr.os,k.tape.trans h.gr.tape,k.output.trans h.gr.output,Nat.le_trans h.gr.size k.size,fun b h1 h2=>(k.block b h1).trans (h.gr.block b h1 h2)⟩⟩
theorem WL(xs:List Xf):∀(k b:Nat)(g:List Xf),(JT xs k b g).length=g.length
 | 0,_,_=>rfl
 | k+1,b,g=>by rw[JT,WL];simp
theorem V9(xs:List Xf):(YM xs).length=xs.length:=by unfold YM;rw[WL];simp[Y6]
theorem ZaC(v:Nat)(xs:List Xf):(K6 v xs).length=xs.length:=by simp[K6]
theorem GoT.turned{lab':Nat->Nat × Nat × Nat}{G' c':Nat}{pv' iv':Nat->Value}{av':Nat->Nat->Value}(h:GoT w wr lab sb B s fb vals G c xs pv iv av)(hb:Below wr.heap.size wr w')(hf:Z5 w' lab' w.heap.size (.slice (some ⟨G',0,none⟩) xs.length c') (YM xs) pv' iv' av')(h0:∀b,w'.heap.size<=b->lab' b=(0,0,0))(hl:∀b,b<wr.heap.size->lab b=(0,0,0)->lab' b=(0,0,0)) :
 GoT w ((w'.setCell ⟨fb,0,none⟩ (.int .i64 vals)).setCell ⟨fb,1,none⟩ (.slice (some ⟨G',0,none⟩) xs.length c')) lab' sb B s fb vals G' c' (YM xs) pv' iv' av':=by
 have hlo:=h.low (hb.mono h.gr.size);have hfb:Bx w' fb #[.int .i64 vals,.slice (some ⟨G,0,none⟩) xs.length c] 25:=h.fbx.keep (hb.block _ h.fbx.lt);have hfl:=hl fb h.fbx.lt h.fbl;have k1:XK w' ((w'.setCell ⟨fb,0,none⟩ (.int .i64 vals)).setCell ⟨fb,1,none⟩ (.slice (some ⟨G',0,none⟩) xs.length c')) lab' lab' w.heap.size (fun b=>b≠fb):=((XK.put fb _ _).trans (XK.put fb _ _)).weak (fun _ hb=>⟨hb,hb⟩);have nb:∀b,(lab' b).1≠0->b≠fb:=fun b h1 e=>h1 (by rw[e,hfl])
 have hw:=h.bw;have hfbb:=h.fbb;refine⟨(hlo.1.put (by omega)).put (by omega),XH (XH hlo.2 (by omega)) (by omega),h.bw,((h.res.keep (hb.block _ h.res.lt)).other (by omega)).other (by omega),hl _ h.res.lt h.resl,?_,hfl,h.fbb,?_,k1.fresh h0⟩
 ·rw[V9]
  have:=(hfb.set 0 (.int .i64 vals)).set 1 (.slice (some ⟨G',0,none⟩) xs.length c');simpa using this
 ·rw[V9]
  exact hf.sp k1 0 (fun b h1 _ _ _=>nb b h1) (Or.inl (fun b e=>nb b (by rcases e with e | e<;>rw[e]<;>simp)))
theorem GoT.renamed(h:GoT w wr lab sb B s fb vals G c xs pv iv av)(hb:Below w.heap.size wr w')(hf:Z5 w' lab w.heap.size (.slice (some ⟨G,0,none⟩) xs.length c) (K6 vals xs) pv iv av)(hk:∀b,b<wr.heap.size->lab b=(0,0,0)->w'.heap[b]?=wr.heap[b]?)(h0:∀b,w'.heap.size<=b->lab b=(0,0,0)) :
 GoT w ((w'.setCell ⟨fb,0,none⟩ (.int .i64 vals)).setCell ⟨fb,1,none⟩ (.slice (some ⟨G,0,none⟩) xs.length c)) lab sb B s fb vals G c (K6 vals xs) pv iv av:=by
 have hlo:=h.low hb;have hfb:Bx w' fb #[.int .i64 vals,.slice (some ⟨G,0,none⟩) xs.length c] 25:=h.fbx.keep (hk _ h.fbx.lt h.fbl);have k1:XK w' ((w'.setCell ⟨fb,0,none⟩ (.int .i64 vals)).setCell ⟨fb,1,none⟩ (.slice (some ⟨G,0,none⟩) xs.length c)) lab lab w.heap.size (fun b=>b≠fb):=((XK.put fb _ _).trans (XK.put fb _ _)).weak (fun _ hb=>⟨hb,hb⟩);have nb:∀b,(lab b).1≠0->b≠fb:=fun b h1 e=>h1 (by rw[e,h.fbl])
 have hw:=h.bw;have hfbb:=h.fbb;refine⟨(hlo.1.put (by omega)).put (by omega),XH (XH hlo.2 (by omega)) (by omega),h.bw,((h.res.keep (hk _ h.res.lt h.resl)).other (by omega)).other (by omega),h.resl,?_,h.fbl,h.fbb,?_,k1.fresh h0⟩
 ·rw[ZaC]
  have:=(hfb.set 0 (.int .i64 vals)).set 1 (.slice (some ⟨G,0,none⟩) xs.length c);simpa using this
 ·rw[ZaC]
  exact hf.sp k1 0 (fun b h1 _ _ _=>nb b h1) (Or.inl (fun b e=>nb b (by rcases e with e | e<;>rw[e]<;>simp)))
end Go.Proofs.YtkehcdfalcakmaaGreatDoor
namespace Go.Proofs.YtkehcdfalcakmaaGreatDoor
open Go.RowKit
variable {w w' : World} {lab : Nat -> Nat × Nat × Nat} {base : Nat} {v : Value} {xs : List Xf} {pv iv : Nat -> Value} {av : Nat -> Nat -> Value}
theorem Z5.upd{i:Nat}{L:Nat × Nat × Nat}(h:Z5 w lab base v xs pv iv av)(x:Xf)(hk:∀b,base<=b->b<w.heap.size->lab b≠L->w'.heap[b]?=w.heap[b]?)(hL:L=(1,0,0)\/L.2.1=i)
 (hb:Xq w' lab (1,0,0) base 43 6 v xs.length (Xy pv iv (xs.set i x))) (hp:Xq w' lab (2,i,0) base 46 2 (pv i) x.phis.length (XU (av i) x.phis)) (hq:Xq w' lab (3,i,0) base 53 5 (iv i) x.instrs.length (XD x.instrs)) (ha:∀j (hj:j<x.phis.length),Xq w' lab (4,i,j) base 2 1 (av i j) x.phis[j].args.length (Xo x.phis[j].args)) :
 Z5 w' lab base v (xs.set i x) pv iv av:=by
 have keep:∀{M:Nat × Nat × Nat}{t sz:Nat}{u:Value}{m:Nat}{cs:List Value},Xq w lab M base t sz u m cs->M≠L->Xq w' lab M base t sz u m cs:=fun hr hne=>hr.keep (fun b h1 h2 e=>⟨hk b h1 h2 (by rw[e];exact hne),e⟩)
 have ne:∀q a j,1<q->a≠i->((q,a,j):Nat × Nat × Nat)≠L:=fun q a j h1 h2 e=>by
  rcases hL with hL | hL
  ·rw[hL]at e
   simp at e;omega
  ·rw[<-e]at hL
   exact h2 hL
 refine⟨by rw[List.length_set];exact hb,fun a ha'=>?_,fun a ha'=>?_,fun a ha' j hj=>?_⟩
 ·by_cases e:a=i
  ·subst e
   simp only[Xe];exact hp
  ·rw[List.getElem_set_ne (fun e2=>e e2.symm)]
   exact keep (h.phis a (by simpa using ha')) (ne _ _ _ (by decide) e)
 ·by_cases e:a=i
  ·subst e
   simp only[Xe];exact hq
  ·rw[List.getElem_set_ne (fun e2=>e e2.symm)]
   exact keep (h.ins a (by simpa using ha')) (ne _ _ _ (by decide) e)
 ·by_cases e:a=i
  ·subst e
   simp only[Xe]at hj |-;exact ha j hj
  ·simp only[List.getElem_set_ne (fun e2=>e e2.symm)]at hj |-
   exact keep (h.args a (by simpa using ha') j hj) (ne _ _ _ (by decide) e)
theorem Kq{i:Nat}{x:Xf}(hi:i<xs.length)(hx:x.term=xs[i].term):Xy pv iv (xs.set i x)=Xy pv iv xs:=by
 unfold Xy;have:xs=xs.set i xs[i]:=(List.set_getElem_self hi).symm;refine List.ext_getElem? (fun r=>?_);have hl:=Zc (f:=fun i (x:Xf)=>Tk (pv i) (iv i) x.term) (sz:=6) (fun _ _=>rfl) 0 xs;have hl2:=Zc (f:=fun i (x:Xf)=>Tk (pv i) (iv i) x.term) (sz:=6) (fun _ _=>rfl) 0 (xs.set i x);rw[List.length_set]at hl2;by_cases hr:r<xs.length*6
 ·have hq:r / 6<xs.length:=by omega
  have hqs:r / 6<(xs.set i x).length:=by simpa using hq
  have er:r=r / 6*6+r % 6:=by omega
  have hm:r % 6<6:=Nat.mod_lt _ (by decide);rw[er,Xu (sz:=6) (fun _ _=>rfl) 0 _ _ hqs _ hm,Xu (sz:=6) (fun _ _=>rfl) 0 xs _ hq _ hm];by_cases e:i=r / 6
  ·subst e
   rw[Xe,hx]
  ·rw[List.getElem_set_ne e]
 ·rw[List.getElem?_eq_none (by omega),List.getElem?_eq_none (by omega)]
theorem ZfB{T:Type}{l:List T}{k:Nat}{u:T}(h:l[k]?=some u):l.set k u=l:=by
 refine List.ext_getElem? (fun r=>?_);by_cases e:k=r
 ·subst e
  obtain⟨hk,_⟩:=List.getElem?_eq_some_iff.1 h;rw[List.getElem?_set_self hk,h]
 ·rw[List.getElem?_set_ne e]
theorem ZM{L:Nat × Nat × Nat}{t sz g n c m:Nat}{cs:List Value}(h:Xq w lab L base t sz (.slice (some ⟨g,0,none⟩) n c) m cs):m=n:=by
 rcases h.own.2 with⟨e,_⟩ | ⟨_,_,_,e,_⟩
 ·cases e
 ·cases e;rfl
theorem ZS{L:Nat × Nat × Nat}{g q:Nat}{u:Value}(hg:lab g=L):∀b,base<=b->b<w.heap.size->lab b≠L->(w.setCell ⟨g,q,none⟩ u).heap[b]?=w.heap[b]?:=fun _ _ _ hne=>Below.heap_setCell _ _ _ _ (fun e=>hne (by rw[e];exact hg))
theorem Z5.setDst{i j g n c:Nat}{d:Int}(h:Z5 w lab base v xs pv iv av)(hi:i<xs.length)(hj:j<xs[i].phis.length)(hp:pv i=.slice (some ⟨g,0,none⟩) n c) :
 Z5 (w.setCell ⟨g,j*2,none⟩ (.int .i64 d)) lab base v (xs.set i (xs[i].setPhi j ⟨d,xs[i].phis[j].args⟩)) pv iv av/\lab g=(2,i,0)/\w.cell? ⟨g,j*2,none⟩=some (.int .i64 xs[i].phis[j].dst)/\(∀q,w.frozen? ⟨g,q,none⟩=false):=by
 have hph:=h.phis i hi;rw[hp]at hph;have hn:=ZM hph;subst hn;have hgl:=hph.lab g rfl;have keep:∀{M:Nat × Nat × Nat}{t sz:Nat}{u:Value}{m:Nat}{cs:List Value},Xq w lab M base t sz u m cs->M≠(2,i,0)->Xq (w.setCell ⟨g,j*2,none⟩ (.int .i64 d)) lab M base t sz u m cs:=fun hr hne=>hr.keep (fun b h1 h2 e=>⟨ZS hgl b h1 h2 (by rw[e];exact hne),e⟩)
 refine⟨h.upd _ (ZS hgl) (Or.inr rfl) ?_ ?_ (keep (h.ins i hi) (by simp)) (fun m hm=>?_),hgl,hph.cell ?_,hph.thaw⟩
 ·rw[Kq (x:=xs[i].setPhi j ⟨d,xs[i].phis[j].args⟩) hi rfl]
  exact keep h.blks (by simp)
 ·rw[hp]
  show Xq _ lab (2,i,0) base 46 2 _ (xs[i].phis.set j _).length (XU (av i) (xs[i].phis.set j _));rw[List.length_set];have es:XU (av i) (xs[i].phis.set j ⟨d,xs[i].phis[j].args⟩)=(XU (av i) xs[i].phis).set (j*2+0) (.int .i64 d):=by
   unfold XU;refine Ye (sz:=2) (fun _ _=>rfl) 0 xs[i].phis j hj _ 0 _ (by decide) ?_ (fun m hm hne=>rfl);rfl
  rw[es];exact hph.set _ _
 ·have hm':m<xs[i].phis.length:=by simpa [Xf.setPhi]using hm
  have ea:(xs[i].setPhi j ⟨d,xs[i].phis[j].args⟩).phis[m].args=xs[i].phis[m].args:=by
   by_cases e:j=m
   ·subst e
    simp only[Xf.setPhi,Xe]
   ·simp only[Xf.setPhi,List.getElem_set_ne e]
  rw[ea];exact keep (h.args i hi m hm') (by simp)
 ·unfold XU
  have:=Xu (f:=fun j (p:Ph)=>[Value.int .i64 p.dst,av i j]) (sz:=2) (fun _ _=>rfl) 0 _ j hj 0 (by decide);rw[Nat.add_zero]at this;rw[this,Nat.zero_add];rfl
theorem Z5.setArg{i j k g n c:Nat}{d:Int}(h:Z5 w lab base v xs pv iv av)(hi:i<xs.length)(hj:j<xs[i].phis.length)(hk:k<xs[i].phis[j].args.length)(hp:av i j=.slice (some ⟨g,0,none⟩) n c) :
 Z5 (w.setCell ⟨g,k,none⟩ (.int .i64 d)) lab base v (xs.set i (xs[i].setPhi j ⟨xs[i].phis[j].dst,xs[i].phis[j].args.set k d⟩)) pv iv av/\lab g=(4,i,j)/\w.cell? ⟨g,k,none⟩=some (.int .i64 xs[i].phis[j].args[k])/\(∀q,w.frozen? ⟨g,q,none⟩=false):=by
 have hph:=h.args i hi j hj;rw[hp]at hph;have hn:=ZM hph;subst hn;have hgl:=hph.lab g rfl;have keep:∀{M:Nat × Nat × Nat}{t sz:Nat}{u:Value}{m:Nat}{cs:List Value},Xq w lab M base t sz u m cs->M≠(4,i,j)->Xq (w.setCell ⟨g,k,none⟩ (.int .i64 d)) lab M base t sz u m cs:=fun hr hne=>hr.keep (fun b h1 h2 e=>⟨ZS hgl b h1 h2 (by rw[e];exact hne),e⟩)
 refine⟨h.upd _ (ZS hgl) (Or.inr rfl) ?_ ?_ (keep (h.ins i hi) (by simp)) (fun m hm=>?_),hgl,hph.cell ?_,hph.thaw⟩
 ·rw[Kq (x:=xs[i].setPhi j ⟨xs[i].phis[j].dst,xs[i].phis[j].args.set k d⟩) hi rfl]
  exact keep h.blks (by simp)
 ·show Xq _ lab (2,i,0) base 46 2 _ (xs[i].phis.set j _).length (XU (av i) (xs[i].phis.set j _))
  rw[List.length_set];have es:XU (av i) (xs[i].phis.set j ⟨xs[i].phis[j].dst,xs[i].phis[j].args.set k d⟩)=XU (av i) xs[i].phis:=by
   have h0:=Xu (f:=fun j (p:Ph)=>[Value.int .i64 p.dst,av i j]) (sz:=2) (fun _ _=>rfl) 0 _ j hj 0 (by decide);unfold XU;have e2:=Ye (f:=fun j (p:Ph)=>[Value.int .i64 p.dst,av i j]) (f':=fun j (p:Ph)=>[Value.int .i64 p.dst,av i j]) (sz:=2) (fun _ _=>rfl) 0 xs[i].phis j hj ⟨xs[i].phis[j].dst,xs[i].phis[j].args.set k d⟩ 0 (.int .i64 xs[i].phis[j].dst) (by decide) rfl (fun m hm hne=>rfl);rw[e2];exact ZfB (h0.trans rfl)
  rw[es];exact keep (h.phis i hi) (by simp)
 ·have hm':m<xs[i].phis.length:=by simpa [Xf.setPhi]using hm
  by_cases e:j=m
  ·subst e
   simp only[Xf.setPhi,Xe];rw[hp,List.length_set];have e3:Xo (xs[i].phis[j].args.set k d)=(Xo xs[i].phis[j].args).set k (.int .i64 d):=by unfold Xo;rw[List.map_set]
   rw[e3];exact hph.set _ _
  ·simp only[Xf.setPhi,List.getElem_set_ne e]
   exact keep (h.args i hi m hm') (by simp;exact fun e2=>e e2.symm)
 ·unfold Xo
  simp[hk]
def US(w:World)(g k:Nat)(x:Xz):World:=((((w.setCell ⟨g,k,none⟩ (.int .i64 x.op)).setCell ⟨g,k+1,none⟩ (.int .i64 x.dst)).setCell ⟨g,k+2,none⟩ (.int .i64 x.a)).setCell ⟨g,k+3,none⟩ (.int .i64 x.b)).setCell ⟨g,k+4,none⟩ (.int .i64 x.imm)
theorem Z5.setIns{i j g n c:Nat}{x:Xz}(h:Z5 w lab base v xs pv iv av)(hi:i<xs.length)(hj:j<xs[i].instrs.length)(hp:iv i=.slice (some ⟨g,0,none⟩) n c) :
 Z5 (US w g (j*5) x) lab base v (xs.set i ⟨xs[i].phis,xs[i].instrs.set j x,xs[i].term⟩) pv iv av/\lab g=(3,i,0)/\Y0 w g (j*5) xs[i].instrs[j]/\(∀q,w.frozen? ⟨g,q,none⟩=false):=by
 have hph:=h.ins i hi;rw[hp]at hph;have hn:=ZM hph;subst hn;have hgl:=hph.lab g rfl;have hkp:∀b,base<=b->b<w.heap.size->lab b≠(3,i,0)->(US w g (j*5) x).heap[b]?=w.heap[b]?:=fun b _ _ hne=>by
  have nb:b≠g:=fun e=>hne (by rw[e];exact hgl)
  unfold US;rw[Below.heap_setCell _ _ _ _ nb,Below.heap_setCell _ _ _ _ nb,Below.heap_setCell _ _ _ _ nb,Below.heap_setCell _ _ _ _ nb,Below.heap_setCell _ _ _ _ nb]
 have keep:∀{M:Nat × Nat × Nat}{t sz:Nat}{u:Value}{m:Nat}{cs:List Value},Xq w lab M base t sz u m cs->M≠(3,i,0)->Xq (US w g (j*5) x) lab M base t sz u m cs:=fun hr hne=>hr.keep (fun b h1 h2 e=>⟨hkp b h1 h2 (by rw[e];exact hne),e⟩)
 have cc:∀q u,q<5->(xs[i].instrs[j].cells)[q]?=some u->w.cell? ⟨g,j*5+q,none⟩=some u:=fun q u hq hu=>hph.cell (by
  unfold XD;rw[Xu (sz:=5) (fun _ _=>rfl) 0 xs[i].instrs j hj q hq];exact hu)
 refine⟨h.upd (L:=(3,i,0)) ⟨xs[i].phis,xs[i].instrs.set j x,xs[i].term⟩ hkp (Or.inr rfl) ?_ (keep (h.phis i hi) (by simp)) ?_ (fun m hm=>keep (h.args i hi m hm) (by simp)),hgl,⟨cc 0 _ (by omega) rfl,cc 1 _ (by omega) rfl,cc 2 _ (by omega) rfl,cc 3 _ (by omega) rfl,cc 4 _ (by omega) rfl⟩,hph.thaw⟩
 ·rw[Kq (x:=⟨xs[i].phis,xs[i].instrs.set j x,xs[i].term⟩) hi rfl]
  exact keep h.blks (by simp)
 ·rw[hp]
  show Xq _ lab (3,i,0) base 53 5 _ (xs[i].instrs.set j x).length (XD (xs[i].instrs.set j x));rw[List.length_set];have hs:=((((hph.set (j*5) (.int .i64 x.op)).set (j*5+1) (.int .i64 x.dst)).set (j*5+2) (.int .i64 x.a)).set (j*5+3) (.int .i64 x.b)).set (j*5+4) (.int .i64 x.imm);have hf:∀(k:Nat)(y:Xz),y.cells.length=5:=fun _ _=>rfl
  have es:XD (xs[i].instrs.set j x)=(((((XD xs[i].instrs).set (j*5) (.int .i64 x.op)).set (j*5+1) (.int .i64 x.dst)).set (j*5+2) (.int .i64 x.a)).set (j*5+3) (.int .i64 x.b)).set (j*5+4) (.int .i64 x.imm):=by
   have s1:=Ye (f:=fun _ (y:Xz)=>y.cells) (f':=fun _ (y:Xz)=>y.cells) hf 0 xs[i].instrs j hj ⟨x.op,xs[i].instrs[j].dst,xs[i].instrs[j].a,xs[i].instrs[j].b,xs[i].instrs[j].imm⟩ 0 (.int .i64 x.op) (by decide) rfl (fun _ _ _=>rfl);have hl:=fun (y:Xz)=>(show j<(xs[i].instrs.set j y).length by simpa using hj)
   have s2:=Ye (f:=fun _ (y:Xz)=>y.cells) (f':=fun _ (y:Xz)=>y.cells) hf 0 (xs[i].instrs.set j ⟨x.op,xs[i].instrs[j].dst,xs[i].instrs[j].a,xs[i].instrs[j].b,xs[i].instrs[j].imm⟩) j (hl _) ⟨x.op,x.dst,xs[i].instrs[j].a,xs[i].instrs[j].b,xs[i].instrs[j].imm⟩ 1 (.int .i64 x.dst) (by decide) (by rw[Xe];rfl) (fun _ _ _=>rfl);rw[List.set_set]at s2;have s3:=Ye (f:=fun _ (y:Xz)=>y.cells) (f':=fun _ (y:Xz)=>y.cells) hf 0 (xs[i].instrs.set j ⟨x.op,x.dst,xs[i].instrs[j].a,xs[i].instrs[j].b,xs[i].instrs[j].imm⟩) j (hl _) ⟨x.op,x.dst,x.a,xs[i].instrs[j].b,xs[i].instrs[j].imm⟩ 2 (.int .i64 x.a) (by decide) (by rw[Xe];rfl) (fun _ _ _=>rfl);rw[List.set_set]at s3;have s4:=Ye (f:=fun _ (y:Xz)=>y.cells) (f':=fun _ (y:Xz)=>y.cells) hf 0 (xs[i].instrs.set j ⟨x.op,x.dst,x.a,xs[i].instrs[j].b,xs[i].instrs[j].imm⟩) j (hl _) ⟨x.op,x.dst,x.a,x.b,xs[i].instrs[j].imm⟩ 3 (.int .i64 x.b) (by decide) (by rw[Xe];rfl) (fun _ _ _=>rfl);rw[List.set_set]at s4;have s5:=Ye (f:=fun _ (y:Xz)=>y.cells) (f':=fun _ (y:Xz)=>y.cells) hf 0 (xs[i].instrs.set j ⟨x.op,x.dst,x.a,x.b,xs[i].instrs[j].imm⟩) j (hl _) x 4 (.int .i64 x.imm) (by decide) (by rw[Xe];rfl) (fun _ _ _=>rfl);rw[List.set_set]at s5;unfold XD;rw[s5,s4,s3,s2,s1,Nat.add_zero]
  rw[es];exact hs
theorem Z5.setTerA{i g n c:Nat}{d:Int}(h:Z5 w lab base (.slice (some ⟨g,0,none⟩) n c) xs pv iv av)(hi:i<xs.length) :
 Z5 (w.setCell ⟨g,i*6+3,none⟩ (.int .i64 d)) lab base (.slice (some ⟨g,0,none⟩) n c) (xs.set i ⟨xs[i].phis,xs[i].instrs,⟨xs[i].term.kind,d,xs[i].term.to,xs[i].term.els⟩⟩) pv iv av/\lab g=(1,0,0)/\(∀q,w.frozen? ⟨g,q,none⟩=false):=by
 have hph:=h.blks;have hn:=ZM hph;subst hn;have hgl:=hph.lab g rfl;have keep:∀{M:Nat × Nat × Nat}{t sz:Nat}{u:Value}{m:Nat}{cs:List Value},Xq w lab M base t sz u m cs->M≠(1,0,0)->Xq (w.setCell ⟨g,i*6+3,none⟩ (.int .i64 d)) lab M base t sz u m cs:=fun hr hne=>hr.keep (fun b h1 h2 e=>⟨ZS hgl b h1 h2 (by rw[e];exact hne),e⟩)
 refine⟨h.upd (L:=(1,0,0)) ⟨xs[i].phis,xs[i].instrs,⟨xs[i].term.kind,d,xs[i].term.to,xs[i].term.els⟩⟩ (ZS hgl) (Or.inl rfl) ?_ (keep (h.phis i hi) (by simp)) (keep (h.ins i hi) (by simp)) (fun m hm=>keep (h.args i hi m hm) (by simp)),hgl,hph.thaw⟩;have es:Xy pv iv (xs.set i ⟨xs[i].phis,xs[i].instrs,⟨xs[i].term.kind,d,xs[i].term.to,xs[i].term.els⟩⟩)=(Xy pv iv xs).set (i*6+3) (.int .i64 d):=by
  unfold Xy;refine Ye (sz:=6) (fun _ _=>rfl) 0 xs i hi _ 3 _ (by decide) rfl (fun _ _ _=>rfl)
 rw[es];exact hph.set _ _
theorem Z5.cells{i g n c:Nat}(h:Z5 w lab base (.slice (some ⟨g,0,none⟩) n c) xs pv iv av)(hi:i<xs.length):w.cell? ⟨g,i*6,none⟩=some (pv i)/\w.cell? ⟨g,i*6+1,none⟩=some (iv i)/\Y5 w g (i*6+2) xs[i].term:=by
 have hb:=h.blks;have hn:=ZM hb;subst hn;have cc:∀q u,q<6->(Tk (pv i) (iv i) xs[i].term)[q]?=some u->w.cell? ⟨g,i*6+q,none⟩=some u:=fun q u hq hu=>hb.cell (by
  unfold Xy;rw[Xu (fun _ _=>JZ _ _ _) 0 xs i hi q hq,Nat.zero_add];exact hu)
 exact⟨cc 0 _ (by omega) rfl,cc 1 _ (by omega) rfl,cc 2 _ (by omega) rfl,cc 3 _ (by omega) rfl,cc 4 _ (by omega) rfl,cc 5 _ (by omega) rfl⟩
theorem Z5.phiCells{i j g n c:Nat}(h:Z5 w lab base v xs pv iv av)(hi:i<xs.length)(hj:j<xs[i].phis.length)(hp:pv i=.slice (some ⟨g,0,none⟩) n c):w.cell? ⟨g,j*2,none⟩=some (.int .i64 xs[i].phis[j].dst)/\w.cell? ⟨g,j*2+1,none⟩=some (av i j):=by
 have hph:=h.phis i hi;rw[hp]at hph;have hn:=ZM hph;subst hn;have cc:∀q u,q<2->([.int .i64 xs[i].phis[j].dst,av i j]:List Value)[q]?=some u->w.cell? ⟨g,j*2+q,none⟩=some u:=fun q u hq hu=>hph.cell (by
  unfold XU;rw[Xu (sz:=2) (fun _ _=>rfl) 0 _ j hj q hq,Nat.zero_add];exact hu)
 exact⟨cc 0 _ (by omega) rfl,cc 1 _ (by omega) rfl⟩
end Go.Proofs.YtkehcdfalcakmaaGreatDoor
namespace Go.Proofs.YtkehcdfalcakmaaGreatDoor
open Go.RowKit
theorem ZP(b:Int)(n:Nat)(w:World)(h0:0<=b)(hb:b<=1000000)(hn:n<=1000000) :
 Calls Tryz.prog 90 #[.int .i64 b,.int .i64 (n:Int)] w fun e w'=>e=.returned (.int .i64 (Jo b n))/\w'=w:=by
 have HO:Hid (Jo b n=if b=0 then 0 else (n:Int)-b):=Xa rfl;by_cases h:b=0
 ·rw[if_pos h]at HO
  have hb0:(b==0)=true:=by simpa using h
  clear h
  go_enter Tryz.func90,Tryz.ntmps90
  go_wp2
  go_ret
  rw[HO.out];exact⟨rfl,rfl⟩
 ·rw[if_neg h]at HO
  have hb0:(b==0)=false:=by simpa using h
  clear h
  go_enter Tryz.func90,Tryz.ntmps90
  go_wp2
  go_ret
  rw[HO.out];exact⟨rfl,rfl⟩
def setA(x:Xz)(v:Int):Xz:=⟨x.op,x.dst,v,x.b,x.imm⟩
def Kl(xs:List Xf)(b:Nat)(v:Int)(s:Sr):List Xf × Sr :=
 if (xs.getD b XL).term.kind≠1 then (xs.set b ⟨(xs.getD b XL).phis,(xs.getD b XL).instrs,⟨(xs.getD b XL).term.kind,v,(xs.getD b XL).term.to,(xs.getD b XL).term.els⟩⟩,s)else (xs,s)
def TS(xs:List Xf)(b:Nat)(v:Int)(s:Sr):List Xf × Sr :=
 if 0<(xs.getD b XL).instrs.length then
  if aB ((xs.getD b XL).instrs.getD (nextP s (xs.getD b XL).instrs.length).1.toNat ⟨0,0,0,0,0⟩).op=true then
   (xs.set b ⟨(xs.getD b XL).phis,(xs.getD b XL).instrs.set (nextP s (xs.getD b XL).instrs.length).1.toNat (setA ((xs.getD b XL).instrs.getD (nextP s (xs.getD b XL).instrs.length).1.toNat ⟨0,0,0,0,0⟩) v),(xs.getD b XL).term⟩,(nextP s (xs.getD b XL).instrs.length).2)
  else Kl xs b v (nextP s (xs.getD b XL).instrs.length).2
 else Kl xs b v s
def ZaH(xs:List Xf)(b:Nat)(v:Int)(s:Sr):List Xf × Sr :=
 if 0<(xs.getD b XL).phis.length then
  if (nextP s 3).1=0 then
   (xs.set b ((xs.getD b XL).setPhi 0 ⟨((xs.getD b XL).phis.getD 0 UY).dst,((xs.getD b XL).phis.getD 0 UY).args.set (nextP (nextP s 3).2 ((xs.getD b XL).phis.getD 0 UY).args.length).1.toNat v⟩),(nextP (nextP s 3).2 ((xs.getD b XL).phis.getD 0 UY).args.length).2)
  else TS xs b v (nextP s 3).2
 else TS xs b v s
def ZC(V:Nat)(xs:List Xf)(s:Sr):List Xf × Sr:=ZaH xs (nextP s xs.length).1.toNat (nextP (nextP s xs.length).2 V).1 (nextP (nextP s xs.length).2 V).2
theorem Z5.setInsA{w:World}{lab:Nat->Nat × Nat × Nat}{base:Nat}{v:Value}{xs:List Xf}{pv iv:Nat->Value}{av:Nat->Nat->Value}{i j g n c:Nat}{d:Int}(h:Z5 w lab base v xs pv iv av)(hi:i<xs.length)(hj:j<xs[i].instrs.length)(hp:iv i=.slice (some ⟨g,0,none⟩) n c) :
 Z5 (w.setCell ⟨g,j*5+2,none⟩ (.int .i64 d)) lab base v (xs.set i ⟨xs[i].phis,xs[i].instrs.set j (setA xs[i].instrs[j] d),xs[i].term⟩) pv iv av/\lab g=(3,i,0)/\Y0 w g (j*5) xs[i].instrs[j]/\(∀q,w.frozen? ⟨g,q,none⟩=false):=by
 have hph:=h.ins i hi;rw[hp]at hph;have hn:=ZM hph;subst hn;have hgl:=hph.lab g rfl;have keep:∀{M:Nat × Nat × Nat}{t sz:Nat}{u:Value}{m:Nat}{cs:List Value},Xq w lab M base t sz u m cs->M≠(3,i,0)->Xq (w.setCell ⟨g,j*5+2,none⟩ (.int .i64 d)) lab M base t sz u m cs:=fun hr hne=>hr.keep (fun b h1 h2 e=>⟨ZS hgl b h1 h2 (by rw[e];exact hne),e⟩)
 have cc:∀q u,q<5->(xs[i].instrs[j].cells)[q]?=some u->w.cell? ⟨g,j*5+q,none⟩=some u:=fun q u hq hu=>hph.cell (by
  unfold XD;rw[Xu (sz:=5) (fun _ _=>rfl) 0 xs[i].instrs j hj q hq];exact hu)
 refine⟨h.upd (L:=(3,i,0)) ⟨xs[i].phis,xs[i].instrs.set j (setA xs[i].instrs[j] d),xs[i].term⟩ (ZS hgl) (Or.inr rfl) ?_ (keep (h.phis i hi) (by simp)) ?_ (fun m hm=>keep (h.args i hi m hm) (by simp)),hgl,⟨cc 0 _ (by omega) rfl,cc 1 _ (by omega) rfl,cc 2 _ (by omega) rfl,cc 3 _ (by omega) rfl,cc 4 _ (by omega) rfl⟩,hph.thaw⟩
 ·rw[Kq (x:=⟨xs[i].phis,xs[i].instrs.set j (setA xs[i].instrs[j] d),xs[i].term⟩) hi rfl]
  exact keep h.blks (by simp)
 ·rw[hp]
  show Xq _ lab (3,i,0) base 53 5 _ (xs[i].instrs.set j _).length (XD (xs[i].instrs.set j _));rw[List.length_set];have es:XD (xs[i].instrs.set j (setA xs[i].instrs[j] d))=(XD xs[i].instrs).set (j*5+2) (.int .i64 d):=by
   unfold XD;exact Ye (sz:=5) (fun _ _=>rfl) 0 xs[i].instrs j hj _ 2 _ (by decide) rfl (fun _ _ _=>rfl)
  rw[es];exact hph.set _ _
structure Wc(w wr:World)(lab:Nat->Nat × Nat × Nat)(base sb B:Nat)(s:Sr)(v G n c:Nat)(xs:List Xf)(pv iv:Nat->Value)(av:Nat->Nat->Value):Prop where
 fn:Z5 wr lab base (.slice (some ⟨G,0,none⟩) n c) xs pv iv av
 dr:Zs wr sb B s
 bb:B<=base
 os:wr.os=w.os
 tape:wr.tape=w.tape
 output:wr.output=w.output
 size:w.heap.size<=wr.heap.size
 low:∀b,b<base->b≠sb->wr.heap[b]?=w.heap[b]?
 fr:∀b,w.heap.size<=b->lab b=(0,0,0)
 bs:base<=w.heap.size
 box:Bx wr w.heap.size #[.int .i64 (v:Int),.slice (some ⟨G,0,none⟩) n c] 25
 res:Bx wr (w.heap.size+1) #[.int .i64 0,.slice none 0 0] 25
variable {w wr w' : World} {lab : Nat -> Nat × Nat × Nat} {base sb B : Nat} {s s' : Sr} {v G n c : Nat} {xs xs' : List Xf} {pv iv : Nat -> Value} {av : Nat -> Nat -> Value}
theorem Wc.lt(h:Wc w wr lab base sb B s v G n c xs pv iv av):sb<base:=by have:=h.bb;have:=h.dr.bB;omega
theorem Wc.call(h:Wc w wr lab base sb B s v G n c xs pv iv av)(g:wr.grownBy w' (some sb))(d:Zs w' sb B s'):Wc w w' lab base sb B s' v G n c xs pv iv av:=by
 have k:XK wr w' lab lab base (fun _=>True):=XK.grown g h.lt;have hl:=h.lt;have hb:=h.bs;have hsz:=h.size;exact⟨h.fn.sp k 0 (fun _ _ _ _ _=>trivial) (Or.inl (fun _ _=>trivial)),d,h.bb,g.os.trans h.os,g.tape.trans h.tape,g.output.trans h.output,Nat.le_trans h.size g.size,fun b h1 h2=>(g.block b (by omega) (fun e=>h2 (by injection e))).trans (h.low b h1 h2),h.fr,h.bs,h.box.grown g (by intro e;injection e;omega),h.res.grown g (by intro e;injection e;omega)⟩
theorem Wc.alloc(h:Wc w wr lab base sb B s v G n c xs pv iv av)(o:Obj):Wc w (wr.alloc o) lab base sb B s v G n c xs pv iv av:=h.call (World.grownBy_alloc wr o (some sb)) (h.dr.box o)
theorem Wc.drew(h:Wc w wr lab base sb B s v G n c xs pv iv av):Wc w wr.drew lab base sb B s v G n c xs pv iv av:=h.call ⟨rfl,rfl,rfl,Nat.le_refl _,fun _ _ _=>rfl⟩ h.dr.drew
theorem Wc.put{g q:Nat}{u:Value}(h:Wc w wr lab base sb B s v G n c xs pv iv av)(hf:Z5 (wr.setCell ⟨g,q,none⟩ u) lab base (.slice (some ⟨G,0,none⟩) n c) xs' pv iv av)(hg:lab g≠(0,0,0))(hb:base<=g):Wc w (wr.setCell ⟨g,q,none⟩ u) lab base sb B s v G n c xs' pv iv av:=by
 have hbb:=h.bb;have n0:w.heap.size≠g:=fun e=>hg (h.fr g (by omega))
 have n1:w.heap.size+1≠g:=fun e=>hg (h.fr g (by omega))
 exact⟨hf,h.dr.put (by omega),h.bb,h.os,h.tape,h.output,by simpa [World.setCell]using h.size,fun b h1 h2=>(Below.heap_setCell _ _ _ _ (by show b≠g;omega)).trans (h.low b h1 h2),h.fr,h.bs,h.box.other n0,h.res.other n1⟩
end Go.Proofs.YtkehcdfalcakmaaGreatDoor
