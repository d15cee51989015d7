import Derived.Test.YtkehcdfalcakmaaGreatDoorSPt
namespace Go.Proofs.YtkehcdfalcakmaaGreatDoor
set_option maxHeartbeats 8000000
set_option maxRecDepth 100000
open Go.RowKit
theorem ZiP(rk:Int)(h11:11<=rk)(h15:rk<=15):SpK rk:=by
 intro V G n c xs lab base pv iv av sb B s s2 w wx b xb hb pa np pc ia ni ic c3 c9 tl hl X;obtain⟨f,rfl⟩:=J2 tl hl;clear hl;obtain⟨q0,q1,q2,q3,q4,q5,qz,f0,f1,fz,HSBX⟩:=X.qs;obtain⟨hn,h1,hn2,hbs,hbb,hV,HSMB,HAG,hbn,HNP,HNI,hni2,hnp2,HSX,HRW,HIV,HP⟩:=X
 conv=>arg 2;whnf
 have e0:(rk==0)=false:=by simp;omega
 have e1:(rk==1)=false:=by simp;omega
 have e2:(rk==2)=false:=by simp;omega
 have e3:(rk==3)=false:=by simp;omega
 have e4:(rk==4)=false:=by simp;omega
 have e5:(rk==5)=false:=by simp;omega
 have e6:(rk==6)=false:=by simp;omega
 have e7:(rk==7)=false:=by simp;omega
 have e8:(rk==8)=false:=by simp;omega
 have e9:(rk==9)=false:=by simp;omega
 have e10:(rk==10)=false:=by simp;omega
 go_upto_if 79 with fail
 go_cut [] from 10 to 180 (fun wz=>Hid (SmW wz wx))
 case first =>
  by_cases hnp:0<np
  ·have hnpI:(0:Int)<np:=by omega
   go_wp2_with fail
   go_meet;exact Xa rfl
  ·have hnpI:¬(0:Int)<np:=by omega
   go_wp2_with fail
   go_meet;exact Xa rfl
 case rest =>
  have e:wx=wc:=hcut.symm;subst e;clear hcut q0 q2 q3 q4 q5 qz f0 f1 fz HRW
  go_upto_if 121 with fail
  go_cut [] from 10 to 180 (fun wz=>∃labz sz yz ayz,Hid (Zi w wz labz base sb B sz (V:Int) G n c xs pv iv av b xb (.slice pa np pc) yz ayz)/\Hid (XB V xs s=⟨(V:Int),xs.set b yz⟩))
  case first =>
   by_cases hni:0<ni
   ·have hniI:(0:Int)<ni:=by omega
    have hnx:0<xs[b].instrs.length:=by rw[<-HNI.out];exact hni
    have HPA:Hid (XB V xs s=⟨(V:Int),xs.set b ⟨xs[b].phis,xs[b].instrs.set (nextP s2 (ni:Int)).1.toNat (ZfF rk V (nextP s2 (ni:Int)).2 (xs[b].instrs.getD (nextP s2 (ni:Int)).1.toNat ⟨0,0,0,0,0⟩)),xs[b].term⟩⟩):=Xa (by rw[HP.out,if_neg (by omega),if_neg (by omega),HNI.out];simp[YD,hnx,show ¬rk=6 by omega,show ¬rk<6 by omega,show ¬rk<11 by omega]);clear HP
    go_wp2_with fail
    refine(Xv sb B s2 (ni:Int) wx (Xa HSX.dr) (by omega) (by omega)).mono ?_;rintro e w3 ⟨rfl,hd,hg⟩;have HQ3:=Xa (HSX.call hg hd);have hl3:=Xx s2 (n:=(ni:Int)) (by omega);clear hd hg HSX q1;obtain⟨ri,s3,hrs⟩:∃r s9,nextP s2 (ni:Int)=(r,s9):=⟨_,_,rfl⟩;rw[hrs]at HQ3 HPA hl3 |-;dsimp only at HQ3 HPA hl3 |-;clear hrs;obtain⟨i,rfl⟩:=Zr hl3.1;rw[Int.toNat_natCast]at HPA;have hin:i<ni:=by omega
    have hii:i<xs[b].instrs.length:=by rw[<-HNI.out];exact hin
    rw[show xs[b].instrs.getD i ⟨0,0,0,0,0⟩=xs[b].instrs[i] by simp[hii]]at HPA;obtain⟨gi,ci,e⟩:=(HQ3.yin).got (by omega);rw[HIV.out,<-HNI.out]at e;injection e with e1 _ e3;subst e1 e3;have hk5:rk=11\/rk=12\/rk=13\/rk=14\/rk=15:=by omega
    clear h11 h15;rcases hk5 with rfl | rfl | rfl | rfl | rfl
    ·skip
     have e11:((11:Int)==11)=true:=by decide
     have e12:((11:Int)==12)=false:=by decide
     have e13:((11:Int)==13)=false:=by decide
     have e14:((11:Int)==14)=false:=by decide
     have e15:((11:Int)==15)=false:=by decide
     have HPK:Hid (XB V xs s=⟨(V:Int),xs.set b ⟨xs[b].phis,xs[b].instrs.set i ⟨(nextP s3 13).1,xs[b].instrs[i].dst,xs[b].instrs[i].a,xs[b].instrs[i].b,xs[b].instrs[i].imm⟩,xs[b].term⟩⟩):=Xa (by rw[HPA.out];rfl);clear HPA;have a1:w3.cell? ⟨xb,1,none⟩=some (.slice (some ⟨gi,0,none⟩) ni ic):=by rw[<-HIV.out];exact Bx.cell HQ3.xbx rfl
     have a0:w3.cell? ⟨w.heap.size,0,none⟩=some (.int .i64 (V:Int)):=Bx.cell HQ3.box rfl
     go_wp2_with fail
     refine YZ (fun w'=>w'.cell? ⟨xb,1,none⟩=some (.slice (some ⟨gi,0,none⟩) ni ic)) (fun hHeld=>?_);refine Xl 0 ?_;refine Xl 1 ?_;refine Xl 2 ?_;refine Xl 3 ?_;refine Xw 4 (fun K hK=>?_);go_simp
     go_at_call 30
     refine(Xv sb B s3 13 _ (Xa HQ3.drew.dr) (by omega) (by omega)).mono ?_;rintro e w5 ⟨rfl,hd,hg⟩;have HQ5:=Xa (HQ3.drew.call hg hd);clear hd hg;have a1:w5.cell? ⟨xb,1,none⟩=some (.slice (some ⟨gi,0,none⟩) ni ic):=by rw[<-HIV.out];exact Bx.cell HQ5.xbx rfl
     have a0:w5.cell? ⟨w.heap.size,0,none⟩=some (.int .i64 (V:Int)):=Bx.cell HQ5.box rfl;obtain⟨⟨v0,g0⟩,⟨v1,g1⟩,⟨v2,g2⟩,⟨v3,g3⟩,⟨v4,g4⟩,gz,hxg,hbg⟩:=HQ5.icells hii HIV.out;refine hK _ _ a1 (fun hHeld=>?_);clear hK;refine Xl 5 ?_;refine Xl 6 ?_;refine Xw 7 (fun K hK=>?_);go_simp;refine hK _ _ ((Xc (Below.heap_setCell _ _ _ _ hxg)).trans a1) (fun hHeld=>?_);clear hK;refine Y7 ?_;clear hHeld;have HSY:=Xa (HQ5.setI (m:=0) (z:=(nextP s3 13).1) (x':=⟨(nextP s3 13).1,xs[b].instrs[i].dst,xs[b].instrs[i].a,xs[b].instrs[i].b,xs[b].instrs[i].imm⟩) hii HIV.out (by omega) rfl);clear HQ5 HQ3 a0 a1 g0 g1 g2 g3 g4 gz;rw[Nat.add_zero]at HSY;generalize w5.setCell ⟨gi,i*5,none⟩ (.int .i64 (nextP s3 13).1)=wy at *
     go_wp2_with fail
     go_meet;exact⟨_,_,_,_,HSY,HPK⟩
    ·skip
     have e11:((12:Int)==11)=false:=by decide
     have e12:((12:Int)==12)=true:=by decide
     have e13:((12:Int)==13)=false:=by decide
     have e14:((12:Int)==14)=false:=by decide
     have e15:((12:Int)==15)=false:=by decide
     have HPK:Hid (XB V xs s=⟨(V:Int),xs.set b ⟨xs[b].phis,xs[b].instrs.set i ⟨xs[b].instrs[i].op,(nextP s3 ((V:Int)+1)).1,xs[b].instrs[i].a,xs[b].instrs[i].b,xs[b].instrs[i].imm⟩,xs[b].term⟩⟩):=Xa (by rw[HPA.out];rfl);clear HPA;have a1:w3.cell? ⟨xb,1,none⟩=some (.slice (some ⟨gi,0,none⟩) ni ic):=by rw[<-HIV.out];exact Bx.cell HQ3.xbx rfl
     have a0:w3.cell? ⟨w.heap.size,0,none⟩=some (.int .i64 (V:Int)):=Bx.cell HQ3.box rfl
     go_wp2_with fail
     have hV0:(V:Int)<=1000:=by omega
     have hv1:(0:Int)<=(V:Int)+1:=by omega
     have hv2:(V:Int)+1<=1001:=by omega
     have hw1:IntKind.i64.wrap ((V:Int)+1)=(V:Int)+1:=by rw[IntKind.wrap_i64];omega
     refine YZ (fun w'=>w'.cell? ⟨xb,1,none⟩=some (.slice (some ⟨gi,0,none⟩) ni ic)/\w'.cell? ⟨w.heap.size,0,none⟩=some (.int .i64 (V:Int))) (fun hHeld=>?_);refine Xl 0 ?_;refine Xl 1 ?_;refine Xl 2 ?_;refine Xl 3 ?_;refine Xl 4 ?_;refine Xl 5 ?_;refine Xl 6 ?_;refine Xw 7 (fun K hK=>?_);go_simp
     go_at_call 30
     refine(Xv sb B s3 ((V:Int)+1) _ (Xa HQ3.drew.dr) (by omega) (by omega)).mono ?_;rintro e w5 ⟨rfl,hd,hg⟩;have HQ5:=Xa (HQ3.drew.call hg hd);clear hd hg;have a1:w5.cell? ⟨xb,1,none⟩=some (.slice (some ⟨gi,0,none⟩) ni ic):=by rw[<-HIV.out];exact Bx.cell HQ5.xbx rfl
     have a0:w5.cell? ⟨w.heap.size,0,none⟩=some (.int .i64 (V:Int)):=Bx.cell HQ5.box rfl;obtain⟨⟨v0,g0⟩,⟨v1,g1⟩,⟨v2,g2⟩,⟨v3,g3⟩,⟨v4,g4⟩,gz,hxg,hbg⟩:=HQ5.icells hii HIV.out;refine hK _ _ ⟨a1,a0⟩ (fun hHeld=>?_);clear hK;refine Xl 8 ?_;refine Xl 9 ?_;refine Xw 10 (fun K hK=>?_);go_simp;refine hK _ _ ⟨(Xc (Below.heap_setCell _ _ _ _ hxg)).trans a1,(Xc (Below.heap_setCell _ _ _ _ hbg)).trans a0⟩ (fun hHeld=>?_);clear hK;refine Y7 ?_;clear hHeld;have HSY:=Xa (HQ5.setI (m:=1) (z:=(nextP s3 ((V:Int)+1)).1) (x':=⟨xs[b].instrs[i].op,(nextP s3 ((V:Int)+1)).1,xs[b].instrs[i].a,xs[b].instrs[i].b,xs[b].instrs[i].imm⟩) hii HIV.out (by omega) rfl);clear HQ5 HQ3 a0 a1 g0 g1 g2 g3 g4 gz;generalize w5.setCell ⟨gi,i*5+1,none⟩ (.int .i64 (nextP s3 ((V:Int)+1)).1)=wy at *
     go_wp2_with fail
     go_meet;exact⟨_,_,_,_,HSY,HPK⟩
    ·skip
     have e11:((13:Int)==11)=false:=by decide
     have e12:((13:Int)==12)=false:=by decide
     have e13:((13:Int)==13)=true:=by decide
     have e14:((13:Int)==14)=false:=by decide
     have e15:((13:Int)==15)=false:=by decide
     have HPK:Hid (XB V xs s=⟨(V:Int),xs.set b ⟨xs[b].phis,xs[b].instrs.set i ⟨xs[b].instrs[i].op,xs[b].instrs[i].dst,(V:Int),xs[b].instrs[i].b,xs[b].instrs[i].imm⟩,xs[b].term⟩⟩):=Xa (by rw[HPA.out];rfl);clear HPA;have a1:w3.cell? ⟨xb,1,none⟩=some (.slice (some ⟨gi,0,none⟩) ni ic):=by rw[<-HIV.out];exact Bx.cell HQ3.xbx rfl
     have a0:w3.cell? ⟨w.heap.size,0,none⟩=some (.int .i64 (V:Int)):=Bx.cell HQ3.box rfl;obtain⟨⟨v0,g0⟩,⟨v1,g1⟩,⟨v2,g2⟩,⟨v3,g3⟩,⟨v4,g4⟩,gz,hxg,hbg⟩:=HQ3.icells hii HIV.out
     go_wp2_with fail
     have HSY:=Xa (HQ3.setI (m:=2) (z:=(V:Int)) (x':=⟨xs[b].instrs[i].op,xs[b].instrs[i].dst,(V:Int),xs[b].instrs[i].b,xs[b].instrs[i].imm⟩) hii HIV.out (by omega) rfl);clear HQ3 a0 a1 g0 g1 g2 g3 g4 gz;generalize w3.setCell ⟨gi,i*5+2,none⟩ (.int .i64 (V:Int))=wy at *;go_meet;exact⟨_,_,_,_,HSY,HPK⟩
    ·skip
     have e11:((14:Int)==11)=false:=by decide
     have e12:((14:Int)==12)=false:=by decide
     have e13:((14:Int)==13)=false:=by decide
     have e14:((14:Int)==14)=true:=by decide
     have e15:((14:Int)==15)=false:=by decide
     have HPK:Hid (XB V xs s=⟨(V:Int),xs.set b ⟨xs[b].phis,xs[b].instrs.set i ⟨xs[b].instrs[i].op,xs[b].instrs[i].dst,xs[b].instrs[i].a,(-1),xs[b].instrs[i].imm⟩,xs[b].term⟩⟩):=Xa (by rw[HPA.out];rfl);clear HPA;have a1:w3.cell? ⟨xb,1,none⟩=some (.slice (some ⟨gi,0,none⟩) ni ic):=by rw[<-HIV.out];exact Bx.cell HQ3.xbx rfl
     have a0:w3.cell? ⟨w.heap.size,0,none⟩=some (.int .i64 (V:Int)):=Bx.cell HQ3.box rfl;obtain⟨⟨v0,g0⟩,⟨v1,g1⟩,⟨v2,g2⟩,⟨v3,g3⟩,⟨v4,g4⟩,gz,hxg,hbg⟩:=HQ3.icells hii HIV.out
     go_wp2_with fail
     have HSY:=Xa (HQ3.setI (m:=3) (z:=(-1)) (x':=⟨xs[b].instrs[i].op,xs[b].instrs[i].dst,xs[b].instrs[i].a,(-1),xs[b].instrs[i].imm⟩) hii HIV.out (by omega) rfl);clear HQ3 a0 a1 g0 g1 g2 g3 g4 gz;generalize w3.setCell ⟨gi,i*5+3,none⟩ (.int .i64 (-1))=wy at *;go_meet;exact⟨_,_,_,_,HSY,HPK⟩
    ·skip
     have e11:((15:Int)==11)=false:=by decide
     have e12:((15:Int)==12)=false:=by decide
     have e13:((15:Int)==13)=false:=by decide
     have e14:((15:Int)==14)=false:=by decide
     have e15:((15:Int)==15)=true:=by decide
     have HPK:Hid (XB V xs s=⟨(V:Int),xs.set b ⟨xs[b].phis,xs[b].instrs.set i ⟨xs[b].instrs[i].op,xs[b].instrs[i].dst,xs[b].instrs[i].a,xs[b].instrs[i].b,(nextP s3 12).1⟩,xs[b].term⟩⟩):=Xa (by rw[HPA.out];rfl);clear HPA;have a1:w3.cell? ⟨xb,1,none⟩=some (.slice (some ⟨gi,0,none⟩) ni ic):=by rw[<-HIV.out];exact Bx.cell HQ3.xbx rfl
     have a0:w3.cell? ⟨w.heap.size,0,none⟩=some (.int .i64 (V:Int)):=Bx.cell HQ3.box rfl
     go_wp2_with fail
     refine YZ (fun w'=>w'.cell? ⟨xb,1,none⟩=some (.slice (some ⟨gi,0,none⟩) ni ic)) (fun hHeld=>?_);refine Xl 0 ?_;refine Xl 1 ?_;refine Xl 2 ?_;refine Xl 3 ?_;refine Xw 4 (fun K hK=>?_);go_simp
     go_at_call 30
     refine(Xv sb B s3 12 _ (Xa HQ3.drew.dr) (by omega) (by omega)).mono ?_;rintro e w5 ⟨rfl,hd,hg⟩;have HQ5:=Xa (HQ3.drew.call hg hd);clear hd hg;have a1:w5.cell? ⟨xb,1,none⟩=some (.slice (some ⟨gi,0,none⟩) ni ic):=by rw[<-HIV.out];exact Bx.cell HQ5.xbx rfl
     have a0:w5.cell? ⟨w.heap.size,0,none⟩=some (.int .i64 (V:Int)):=Bx.cell HQ5.box rfl;obtain⟨⟨v0,g0⟩,⟨v1,g1⟩,⟨v2,g2⟩,⟨v3,g3⟩,⟨v4,g4⟩,gz,hxg,hbg⟩:=HQ5.icells hii HIV.out;refine hK _ _ a1 (fun hHeld=>?_);clear hK;refine Xl 5 ?_;refine Xl 6 ?_;refine Xw 7 (fun K hK=>?_);go_simp;refine hK _ _ ((Xc (Below.heap_setCell _ _ _ _ hxg)).trans a1) (fun hHeld=>?_);clear hK;refine Y7 ?_;clear hHeld;have HSY:=Xa (HQ5.setI (m:=4) (z:=(nextP s3 12).1) (x':=⟨xs[b].instrs[i].op,xs[b].instrs[i].dst,xs[b].instrs[i].a,xs[b].instrs[i].b,(nextP s3 12).1⟩) hii HIV.out (by omega) rfl);clear HQ5 HQ3 a0 a1 g0 g1 g2 g3 g4 gz;generalize w5.setCell ⟨gi,i*5+4,none⟩ (.int .i64 (nextP s3 12).1)=wy at *
     go_wp2_with fail
     go_meet;exact⟨_,_,_,_,HSY,HPK⟩
   ·have hniI:¬(0:Int)<ni:=by omega
    have hnx:¬0<xs[b].instrs.length:=by rw[<-HNI.out];exact hni
    have HPK:Hid (XB V xs s=⟨(V:Int),xs.set b xs[b]⟩):=Xa (by rw[HP.out,if_neg (by omega),if_neg (by omega)];simp[YD,hnx,show ¬rk=6 by omega,show ¬rk<6 by omega,show ¬rk<11 by omega])
    go_wp2_with fail
    go_meet;exact⟨_,_,_,_,HSX,HPK⟩
  case rest =>
   obtain⟨labz,sz,yz,ayz,HSY,HPK⟩:=hcut;rename_i aK;exact aK _ _ (Zhd V G n c xs base pv iv av sb B w _ b xb ia ni ic _ _ _ _ _ _ _ _ _ _ _ rfl _ hn hb HIV HPK _ HSY)
end Go.Proofs.YtkehcdfalcakmaaGreatDoor
