import Derived.Test.YtbofmlmdgkblkaaDoorDGm
import Derived.Test.YtbofmlmdgkblkaaDoorTN1
import Derived.Test.YtbofmlmdgkblkaaDoorSPw
namespace Go.Proofs.YtbofmlmdgkblkaaDoor
set_option maxHeartbeats 8000000
set_option maxRecDepth 100000
open Go.RowKit
theorem Zjr(rk:Int)(h11:11<=rk)(h15:rk<=15):SpK rk:=by
 intro V G n c xs lab base pv iv av sb B s s2 w wx b xb hb pa np pc ia ni ic c3 c9 tl hl X;obtain⟨f,rfl⟩:=Ju tl hl;clear hl;obtain⟨q0,q1,q2,q3,q4,q5,qz,f0,f1,fz,HSBX⟩:=X.qs;obtain⟨hn,h1,hn2,hbs,hbb,hV,HSMB,HAG,hbn,HNP,HNI,hni2,hnp2,HSX,HRW,HIV,HP⟩:=X
 conv=>arg 2;whnf
 have e0:(rk==0)=false:=by simp;omega
 have e1:(rk==1)=false:=by simp;omega
 have e2:(rk==2)=false:=by simp;omega
 have e3:(rk==3)=false:=by simp;omega
 have e4:(rk==4)=false:=by simp;omega
 have e5:(rk==5)=false:=by simp;omega
 have e6:(rk==6)=false:=by simp;omega
 have e7:(rk==7)=false:=by simp;omega
 have e8:(rk==8)=false:=by simp;omega
 have e9:(rk==9)=false:=by simp;omega
 have e10:(rk==10)=false:=by simp;omega
 go_upto_if 79 with fail
 go_cut [] from 10 to 180 (fun wz=>Hid (SmW wz wx))
 case first =>
  by_cases hnp:0<np
  ·have hnpI:(0:Int)<np:=by omega
   go_wp2_with fail
   go_meet;exact Xa rfl
  ·have hnpI:¬(0:Int)<np:=by omega
   go_wp2_with fail
   go_meet;exact Xa rfl
 case rest =>
  have e:wx=wc:=hcut.symm;subst e;clear hcut q0 q2 q3 q4 q5 qz f0 f1 fz HRW
  go_upto_if 121 with fail
  go_cut [] from 10 to 180 (fun wz=>∃labz sz yz ayz,Hid (Zk w wz labz base sb B sz (V:Int) G n c xs pv iv av b xb (.slice pa np pc) yz ayz)/\Hid (XJ V xs s=⟨(V:Int),xs.set b yz⟩))
  case first =>
   by_cases hni:0<ni
   ·have hniI:(0:Int)<ni:=by omega
    have hnx:0<xs[b].instrs.length:=by rw[<-HNI.out];exact hni
    have HPA:Hid (XJ V xs s=⟨(V:Int),xs.set b ⟨xs[b].phis,xs[b].instrs.set (nextP s2 (ni:Int)).1.toNat (ZfQ rk V (nextP s2 (ni:Int)).2 (xs[b].instrs.getD (nextP s2 (ni:Int)).1.toNat ⟨0,0,0,0,0⟩)),xs[b].term⟩⟩):=Xa (by rw[HP.out,if_neg (by omega),if_neg (by omega),HNI.out];simp[YE,hnx,show ¬rk=6 by omega,show ¬rk<6 by omega,show ¬rk<11 by omega]);clear HP
    go_wp2_with fail
    refine(X9 sb B s2 (ni:Int) wx (Xa HSX.dr) (by omega) (by omega)).mono ?_;rintro e w3 ⟨rfl,hd,hg⟩;have HQ3:=Xa (HSX.call hg hd);have hl3:=XB s2 (n:=(ni:Int)) (by omega);clear hd hg HSX q1;obtain⟨ri,s3,hrs⟩:∃r s9,nextP s2 (ni:Int)=(r,s9):=⟨_,_,rfl⟩;rw[hrs]at HQ3 HPA hl3 |-;dsimp only at HQ3 HPA hl3 |-;clear hrs;obtain⟨i,rfl⟩:=Zg hl3.1;rw[Int.toNat_natCast]at HPA;have hin:i<ni:=by omega
    have hii:i<xs[b].instrs.length:=by rw[<-HNI.out];exact hin
    rw[show xs[b].instrs.getD i ⟨0,0,0,0,0⟩=xs[b].instrs[i] by simp[hii]]at HPA;obtain⟨gi,ci,e⟩:=(HQ3.yin).got (by omega);rw[HIV.out,<-HNI.out]at e;injection e with e1 _ e3;subst e1 e3;have hk5:rk=11\/rk=12\/rk=13\/rk=14\/rk=15:=by omega
    clear h11 h15;rcases hk5 with rfl | rfl | rfl | rfl | rfl
    ·skip
     have e11:((11:Int)==11)=true:=by decide
     have e12:((11:Int)==12)=false:=by decide
     have e13:((11:Int)==13)=false:=by decide
     have e14:((11:Int)==14)=false:=by decide
     have e15:((11:Int)==15)=false:=by decide
     have HPK:Hid (XJ V xs s=⟨(V:Int),xs.set b ⟨xs[b].phis,xs[b].instrs.set i ⟨(nextP s3 13).1,xs[b].instrs[i].dst,xs[b].instrs[i].a,xs[b].instrs[i].b,xs[b].instrs[i].imm⟩,xs[b].term⟩⟩):=Xa (by rw[HPA.out];rfl);clear HPA;have a1:w3.cell? ⟨xb,1,none⟩=some (.slice (some ⟨gi,0,none⟩) ni ic):=by rw[<-HIV.out];exact Bx.cell HQ3.xbx rfl
     have a0:w3.cell? ⟨w.heap.size,0,none⟩=some (.int .i64 (V:Int)):=Bx.cell HQ3.box rfl
     go_wp2_with fail
     refine YS (fun w'=>w'.cell? ⟨xb,1,none⟩=some (.slice (some ⟨gi,0,none⟩) ni ic)) (fun hHeld=>?_);refine Xr 0 ?_;refine Xr 1 ?_;refine Xr 2 ?_;refine Xr 3 ?_;refine Xs 4 (fun K hK=>?_);go_simp
     go_at_call 27
     refine(X9 sb B s3 13 _ (Xa HQ3.drew.dr) (by omega) (by omega)).mono ?_;rintro e w5 ⟨rfl,hd,hg⟩;have HQ5:=Xa (HQ3.drew.call hg hd);clear hd hg;have a1:w5.cell? ⟨xb,1,none⟩=some (.slice (some ⟨gi,0,none⟩) ni ic):=by rw[<-HIV.out];exact Bx.cell HQ5.xbx rfl
     have a0:w5.cell? ⟨w.heap.size,0,none⟩=some (.int .i64 (V:Int)):=Bx.cell HQ5.box rfl;obtain⟨⟨v0,g0⟩,⟨v1,g1⟩,⟨v2,g2⟩,⟨v3,g3⟩,⟨v4,g4⟩,gz,hxg,hbg⟩:=HQ5.icells hii HIV.out;refine hK _ _ a1 (fun hHeld=>?_);clear hK;refine Xr 5 ?_;refine Xr 6 ?_;refine Xs 7 (fun K hK=>?_);go_simp;refine hK _ _ ((Xc (Below.heap_setCell _ _ _ _ hxg)).trans a1) (fun hHeld=>?_);clear hK;refine Y5 ?_;clear hHeld;have HSY:=Xa (HQ5.setI (m:=0) (z:=(nextP s3 13).1) (x':=⟨(nextP s3 13).1,xs[b].instrs[i].dst,xs[b].instrs[i].a,xs[b].instrs[i].b,xs[b].instrs[i].imm⟩) hii HIV.out (by omega) rfl);clear HQ5 HQ3 a0 a1 g0 g1 g2 g3 g4 gz;rw[Nat.add_zero]at HSY;generalize w5.setCell ⟨gi,i*5,none⟩ (.int .i64 (nextP s3 13).1)=wy at *
     go_wp2_with fail
     go_meet;exact⟨_,_,_,_,HSY,HPK⟩
    ·skip
     have e11:((12:Int)==11)=false:=by decide
     have e12:((12:Int)==12)=true:=by decide
     have e13:((12:Int)==13)=false:=by decide
     have e14:((12:Int)==14)=false:=by decide
     have e15:((12:Int)==15)=false:=by decide
     have HPK:Hid (XJ V xs s=⟨(V:Int),xs.set b ⟨xs[b].phis,xs[b].instrs.set i ⟨xs[b].instrs[i].op,(nextP s3 ((V:Int)+1)).1,xs[b].instrs[i].a,xs[b].instrs[i].b,xs[b].instrs[i].imm⟩,xs[b].term⟩⟩):=Xa (by rw[HPA.out];rfl);clear HPA;have a1:w3.cell? ⟨xb,1,none⟩=some (.slice (some ⟨gi,0,none⟩) ni ic):=by rw[<-HIV.out];exact Bx.cell HQ3.xbx rfl
     have a0:w3.cell? ⟨w.heap.size,0,none⟩=some (.int .i64 (V:Int)):=Bx.cell HQ3.box rfl
     go_wp2_with fail
     have hV0:(V:Int)<=1000:=by omega
     have hv1:(0:Int)<=(V:Int)+1:=by omega
     have hv2:(V:Int)+1<=1001:=by omega
     have hw1:IntKind.i64.wrap ((V:Int)+1)=(V:Int)+1:=by rw[IntKind.wrap_i64];omega
     refine YS (fun w'=>w'.cell? ⟨xb,1,none⟩=some (.slice (some ⟨gi,0,none⟩) ni ic)/\w'.cell? ⟨w.heap.size,0,none⟩=some (.int .i64 (V:Int))) (fun hHeld=>?_);refine Xr 0 ?_;refine Xr 1 ?_;refine Xr 2 ?_;refine Xr 3 ?_;refine Xr 4 ?_;refine Xr 5 ?_;refine Xr 6 ?_;refine Xs 7 (fun K hK=>?_);go_simp
     go_at_call 27
     refine(X9 sb B s3 ((V:Int)+1) _ (Xa HQ3.drew.dr) (by omega) (by omega)).mono ?_;rintro e w5 ⟨rfl,hd,hg⟩;have HQ5:=Xa (HQ3.drew.call hg hd);clear hd hg;have a1:w5.cell? ⟨xb,1,none⟩=some (.slice (some ⟨gi,0,none⟩) ni ic):=by rw[<-HIV.out];exact Bx.cell HQ5.xbx rfl
     have a0:w5.cell? ⟨w.heap.size,0,none⟩=some (.int .i64 (V:Int)):=Bx.cell HQ5.box rfl;obtain⟨⟨v0,g0⟩,⟨v1,g1⟩,⟨v2,g2⟩,⟨v3,g3⟩,⟨v4,g4⟩,gz,hxg,hbg⟩:=HQ5.icells hii HIV.out;refine hK _ _ ⟨a1,a0⟩ (fun hHeld=>?_);clear hK;refine Xr 8 ?_;refine Xr 9 ?_;refine Xs 10 (fun K hK=>?_);go_simp;refine hK _ _ ⟨(Xc (Below.heap_setCell _ _ _ _ hxg)).trans a1,(Xc (Below.heap_setCell _ _ _ _ hbg)).trans a0⟩ (fun hHeld=>?_);clear hK;refine Y5 ?_;clear hHeld;have HSY:=Xa (HQ5.setI (m:=1) (z:=(nextP s3 ((V:Int)+1)).1) (x':=⟨xs[b].instrs[i].op,(nextP s3 ((V:Int)+1)).1,xs[b].instrs[i].a,xs[b].instrs[i].b,xs[b].instrs[i].imm⟩) hii HIV.out (by omega) rfl);clear HQ5 HQ3 a0 a1 g0 g1 g2 g3 g4 gz;generalize w5.setCell ⟨gi,i*5+1,none⟩ (.int .i64 (nextP s3 ((V:Int)+1)).1)=wy at *
     go_wp2_with fail
     go_meet;exact⟨_,_,_,_,HSY,HPK⟩
    ·skip
     have e11:((13:Int)==11)=false:=by decide
     have e12:((13:Int)==12)=false:=by decide
     have e13:((13:Int)==13)=true:=by decide
     have e14:((13:Int)==14)=false:=by decide
     have e15:((13:Int)==15)=false:=by decide
     have HPK:Hid (XJ V xs s=⟨(V:Int),xs.set b ⟨xs[b].phis,xs[b].instrs.set i ⟨xs[b].instrs[i].op,xs[b].instrs[i].dst,(V:Int),xs[b].instrs[i].b,xs[b].instrs[i].imm⟩,xs[b].term⟩⟩):=Xa (by rw[HPA.out];rfl);clear HPA;have a1:w3.cell? ⟨xb,1,none⟩=some (.slice (some ⟨gi,0,none⟩) ni ic):=by rw[<-HIV.out];exact Bx.cell HQ3.xbx rfl
     have a0:w3.cell? ⟨w.heap.size,0,none⟩=some (.int .i64 (V:Int)):=Bx.cell HQ3.box rfl;obtain⟨⟨v0,g0⟩,⟨v1,g1⟩,⟨v2,g2⟩,⟨v3,g3⟩,⟨v4,g4⟩,gz,hxg,hbg⟩:=HQ3.icells hii HIV.out
     go_wp2_with fail
     have HSY:=Xa (HQ3.setI (m:=2) (z:=(V:Int)) (x':=⟨xs[b].instrs[i].op,xs[b].instrs[i].dst,(V:Int),xs[b].instrs[i].b,xs[b].instrs[i].imm⟩) hii HIV.out (by omega) rfl);clear HQ3 a0 a1 g0 g1 g2 g3 g4 gz;generalize w3.setCell ⟨gi,i*5+2,none⟩ (.int .i64 (V:Int))=wy at *;go_meet;exact⟨_,_,_,_,HSY,HPK⟩
    ·skip
     have e11:((14:Int)==11)=false:=by decide
     have e12:((14:Int)==12)=false:=by decide
     have e13:((14:Int)==13)=false:=by decide
     have e14:((14:Int)==14)=true:=by decide
     have e15:((14:Int)==15)=false:=by decide
     have HPK:Hid (XJ V xs s=⟨(V:Int),xs.set b ⟨xs[b].phis,xs[b].instrs.set i ⟨xs[b].instrs[i].op,xs[b].instrs[i].dst,xs[b].instrs[i].a,(-1),xs[b].instrs[i].imm⟩,xs[b].term⟩⟩):=Xa (by rw[HPA.out];rfl);clear HPA;have a1:w3.cell? ⟨xb,1,none⟩=some (.slice (some ⟨gi,0,none⟩) ni ic):=by rw[<-HIV.out];exact Bx.cell HQ3.xbx rfl
     have a0:w3.cell? ⟨w.heap.size,0,none⟩=some (.int .i64 (V:Int)):=Bx.cell HQ3.box rfl;obtain⟨⟨v0,g0⟩,⟨v1,g1⟩,⟨v2,g2⟩,⟨v3,g3⟩,⟨v4,g4⟩,gz,hxg,hbg⟩:=HQ3.icells hii HIV.out
     go_wp2_with fail
     have HSY:=Xa (HQ3.setI (m:=3) (z:=(-1)) (x':=⟨xs[b].instrs[i].op,xs[b].instrs[i].dst,xs[b].instrs[i].a,(-1),xs[b].instrs[i].imm⟩) hii HIV.out (by omega) rfl);clear HQ3 a0 a1 g0 g1 g2 g3 g4 gz;generalize w3.setCell ⟨gi,i*5+3,none⟩ (.int .i64 (-1))=wy at *;go_meet;exact⟨_,_,_,_,HSY,HPK⟩
    ·skip
     have e11:((15:Int)==11)=false:=by decide
     have e12:((15:Int)==12)=false:=by decide
     have e13:((15:Int)==13)=false:=by decide
     have e14:((15:Int)==14)=false:=by decide
     have e15:((15:Int)==15)=true:=by decide
     have HPK:Hid (XJ V xs s=⟨(V:Int),xs.set b ⟨xs[b].phis,xs[b].instrs.set i ⟨xs[b].instrs[i].op,xs[b].instrs[i].dst,xs[b].instrs[i].a,xs[b].instrs[i].b,(nextP s3 12).1⟩,xs[b].term⟩⟩):=Xa (by rw[HPA.out];rfl);clear HPA;have a1:w3.cell? ⟨xb,1,none⟩=some (.slice (some ⟨gi,0,none⟩) ni ic):=by rw[<-HIV.out];exact Bx.cell HQ3.xbx rfl
     have a0:w3.cell? ⟨w.heap.size,0,none⟩=some (.int .i64 (V:Int)):=Bx.cell HQ3.box rfl
     go_wp2_with fail
     refine YS (fun w'=>w'.cell? ⟨xb,1,none⟩=some (.slice (some ⟨gi,0,none⟩) ni ic)) (fun hHeld=>?_);refine Xr 0 ?_;refine Xr 1 ?_;refine Xr 2 ?_;refine Xr 3 ?_;refine Xs 4 (fun K hK=>?_);go_simp
     go_at_call 27
     refine(X9 sb B s3 12 _ (Xa HQ3.drew.dr) (by omega) (by omega)).mono ?_;rintro e w5 ⟨rfl,hd,hg⟩;have HQ5:=Xa (HQ3.drew.call hg hd);clear hd hg;have a1:w5.cell? ⟨xb,1,none⟩=some (.slice (some ⟨gi,0,none⟩) ni ic):=by rw[<-HIV.out];exact Bx.cell HQ5.xbx rfl
     have a0:w5.cell? ⟨w.heap.size,0,none⟩=some (.int .i64 (V:Int)):=Bx.cell HQ5.box rfl;obtain⟨⟨v0,g0⟩,⟨v1,g1⟩,⟨v2,g2⟩,⟨v3,g3⟩,⟨v4,g4⟩,gz,hxg,hbg⟩:=HQ5.icells hii HIV.out;refine hK _ _ a1 (fun hHeld=>?_);clear hK;refine Xr 5 ?_;refine Xr 6 ?_;refine Xs 7 (fun K hK=>?_);go_simp;refine hK _ _ ((Xc (Below.heap_setCell _ _ _ _ hxg)).trans a1) (fun hHeld=>?_);clear hK;refine Y5 ?_;clear hHeld;have HSY:=Xa (HQ5.setI (m:=4) (z:=(nextP s3 12).1) (x':=⟨xs[b].instrs[i].op,xs[b].instrs[i].dst,xs[b].instrs[i].a,xs[b].instrs[i].b,(nextP s3 12).1⟩) hii HIV.out (by omega) rfl);clear HQ5 HQ3 a0 a1 g0 g1 g2 g3 g4 gz;generalize w5.setCell ⟨gi,i*5+4,none⟩ (.int .i64 (nextP s3 12).1)=wy at *
     go_wp2_with fail
     go_meet;exact⟨_,_,_,_,HSY,HPK⟩
   ·have hniI:¬(0:Int)<ni:=by omega
    have hnx:¬0<xs[b].instrs.length:=by rw[<-HNI.out];exact hni
    have HPK:Hid (XJ V xs s=⟨(V:Int),xs.set b xs[b]⟩):=Xa (by rw[HP.out,if_neg (by omega),if_neg (by omega)];simp[YE,hnx,show ¬rk=6 by omega,show ¬rk<6 by omega,show ¬rk<11 by omega])
    go_wp2_with fail
    go_meet;exact⟨_,_,_,_,HSX,HPK⟩
  case rest =>
   obtain⟨labz,sz,yz,ayz,HSY,HPK⟩:=hcut;rename_i aK;exact aK _ _ (Zho V G n c xs base pv iv av sb B w _ b xb ia ni ic _ _ _ _ _ _ _ _ _ _ _ rfl _ hn hb HIV HPK _ HSY)
end Go.Proofs.YtbofmlmdgkblkaaDoor
namespace Go.Proofs.YtbofmlmdgkblkaaDoor
set_option maxHeartbeats 4000000
open Go.RowKit
theorem Zdy(V G n c:Nat)(xs:List Xg)(lab:Nat->Nat × Nat × Nat)(base:Nat)(pv iv:Nat->Value)(av:Nat->Nat->Value)(sb B:Nat)(s:Sr)(w:World)(hF:Hid (Z9 w lab base (.slice (some ⟨G,0,none⟩) n c) xs pv iv av))(hn:Hid (n=xs.length))(h1:1<=n)(hn2:n<=11)(hbs:base<=w.heap.size)(hfr:Hid (∀b,w.heap.size<=b->lab b=(0,0,0)))(hdr:Hid (Z7 w sb B s))(hbb:B<=base)(hV:V<=1000)(hsm:Hid (J9 xs))(harg:Hid (PhA xs)) :
 Calls Tryd.prog 30 #[.agg #[.int .i64 (V:Int),.slice (some ⟨G,0,none⟩) n c],.pointer (some ⟨sb,0,none⟩)] w fun e w'=>SpE (XJ V xs s) w base sb e w':=by
 have hl:=XB s (n:=16) (by omega);refine ZeP V G n c xs lab base pv iv av sb B s w hF hn h1 hn2 hbs hfr hdr hbb hV hsm harg (Xa ?_);generalize (nextP s 16).1=rk at *;by_cases hk:11<=rk
 ·exact Zjr rk hk (by omega)
 have hk16:rk=0\/rk=1\/rk=2\/rk=3\/rk=4\/rk=5\/rk=6\/rk=7\/rk=8\/rk=9\/rk=10:=by omega
 rcases hk16 with rfl | rfl | rfl | rfl | rfl | rfl | rfl | rfl | rfl | rfl | rfl
 ·exact ZiR
 ·exact ZiX
 ·exact Zjq
 ·exact ZiO
 ·exact ZiV
 ·exact Zjm
 ·exact Zju
 ·exact ZiS
 ·exact Zjl
 ·exact ZiW
 ·exact Zi0
noncomputable def drawF(s:Sr):Fn :=
 if (nextP s 30).1<3 then ⟨(XH (nextP s 30).2 false).1.values,(Z6 (XH (nextP s 30).2 false).1.values.toNat (XH (nextP s 30).2 false).1.blocks (XH (nextP s 30).2 false).2).1⟩
 else if (nextP s 30).1=3 then (XH (nextP s 30).2 true).1
 else if (nextP s 30).1<7 then XJ (XH (nextP s 30).2 false).1.values.toNat (XH (nextP s 30).2 false).1.blocks (XH (nextP s 30).2 false).2
 else (XH (nextP s 30).2 false).1
structure GdO(w w':World)(sb B:Nat)(G n c:Nat)(lab:Nat->Nat × Nat × Nat)(pv iv:Nat->Value)(av:Nat->Nat->Value)(V:Nat)(xs:List Xg)(s':Sr):Prop where
 dr:Z7 w' sb B s'
 gr:w.grownBy w' (some sb)
 fn:Z9 w' lab w.heap.size (.slice (some ⟨G,0,none⟩) n c) xs pv iv av
 fr:∀b,w'.heap.size<=b->lab b=(0,0,0)
 len:n=xs.length
 n1:1<=n
 n11:n<=11
 v:V<=1000
 sml:J9 xs
 arg:PhA xs
theorem Za2(sb B:Nat)(s:Sr)(dead:Bool)(w:World)(h:Hid (Z7 w sb B s)) :
 Calls Tryd.prog 29 #[.pointer (some ⟨sb,0,none⟩),.bool dead] w fun e w'=>∃lab G n c pv iv av,∃V:Nat,e=.returned (.agg #[.int .i64 (V:Int),.slice (some ⟨G,0,none⟩) n c])/\(XH s dead).1.values=(V:Int)/\GdO w w' sb B G n c lab pv iv av V (XH s dead).1.blocks (XH s dead).2:=by
 refine(ZeG (Xa Zfx) sb B s dead w h).mono ?_;rintro e w' ⟨lab,G,n,c,pv,iv,av,rfl,h1,h2,h3,h4,h5,h6,h7,⟨V,h8,h9⟩,h10,h11⟩;exact⟨lab,G,n,c,pv,iv,av,V,by rw[h8],h8,h1,h2,h3,h4,h5,h6,h7,h9,h10,h11⟩
theorem GdO.spo{w w':World}{sb B G n c:Nat}{lab:Nat->Nat × Nat × Nat}{pv iv:Nat->Value}{av:Nat->Nat->Value}{V:Nat}{xs:List Xg}{s':Sr}(h:GdO w w' sb B G n c lab pv iv av V xs s'):WV w w' w.heap.size sb (some ⟨G,0,none⟩) xs :=
 ⟨h.fn.at_,h.gr.os,h.gr.tape,h.gr.output,h.gr.size,fun q h1 h2=>h.gr.block q h1 (fun e=>h2 (by injection e))⟩
theorem WV.after{w w1 w2:World}{base sb:Nat}{a:Option Addr}{xs:List Xg}(g:w.grownBy w1 (some sb))(hb:base<=w.heap.size)(h:WV w1 w2 base sb a xs):WV w w2 base sb a xs :=
 ⟨h.at_,h.os.trans g.os,h.tape.trans g.tape,h.output.trans g.output,Nat.le_trans g.size h.size,fun q h1 h2=>(h.low q h1 h2).trans (g.block q (by omega) (fun e=>h2 (by injection e)))⟩
theorem WV.fin{w w1 w3:World}{base sb:Nat}{a:Option Addr}{xs:List Xg}{u0 u1:Value}(hsb:sb<w.heap.size)(gr:(w.alloc (.cells #[.int .i64 0,.slice none 0 0] 25)).grownBy w1 (some sb))(hb:w.heap.size<base)(h:WV w1 w3 base sb a xs):Bx w3 w.heap.size #[.int .i64 0,.slice none 0 0] 25/\WV w ((w3.setCell ⟨w.heap.size,0,none⟩ u0).setCell ⟨w.heap.size,1,none⟩ u1) w.heap.size sb a xs:=by
 have hbx:Bx w3 w.heap.size #[.int .i64 0,.slice none 0 0] 25:=((Bx.new w _ _).grown gr (fun e=>by injection e;omega)).keep (h.low _ hb (by omega));have hB:=((Below.refl w.heap.size w3).setCell (p:=⟨w.heap.size,0,none⟩) (Nat.le_refl _) u0).setCell (p:=⟨w.heap.size,1,none⟩) (Nat.le_refl _) u1;have hS:Yp base w3.heap.size w3 ((w3.setCell ⟨w.heap.size,0,none⟩ u0).setCell ⟨w.heap.size,1,none⟩ u1):=fun q h1 _=>by
  have hq:q≠w.heap.size:=by omega
  exact(Below.heap_setCell _ _ _ _ hq).trans (Below.heap_setCell _ _ _ _ hq)
 have hw1:w.heap.size<=w1.heap.size:=Nat.le_trans (by simp) gr.size;refine⟨hbx,(h.at_.keepS hS).mono (Nat.le_of_lt hb) hB.size,hB.os.trans (h.os.trans gr.os),hB.tape.trans (h.tape.trans gr.tape),hB.output.trans (h.output.trans gr.output),Nat.le_trans hw1 (Nat.le_trans h.size hB.size),fun q h1 h2=>?_⟩;exact(hB.block q h1).trans ((h.low q (by omega) h2).trans ((gr.block q (by simp;omega) (fun e=>h2 (by injection e))).trans (Below.heap_alloc _ _ _ h1)))
theorem LsO.spo{w w':World}{lab:Nat->Nat × Nat × Nat}{base sb B:Nat}{s:Sr}{G n c:Nat}{xs:List Xg}{pv iv:Nat->Value}{av:Nat->Nat->Value}(h:LsO w w' lab base sb B s G n c xs pv iv av):WV w w' base sb (some ⟨G,0,none⟩) xs:=⟨h.fn.at_,h.os,h.tape,h.output,h.size,h.low⟩
def DrE(F:Fn)(w:World)(sb:Nat)(e:Ending)(w':World):Prop:=SpE F w w.heap.size sb e w'/\F.blocks.length+X7 F.blocks<=1048576
theorem Zdo(sb B:Nat)(s:Sr)(w:World)(h:Hid (Z7 w sb B s)) :
 Calls Tryd.prog 11 #[.pointer (some ⟨sb,0,none⟩)] w fun e w'=>DrE (drawF s) w sb e w':=by
 have HP:Hid (drawF s=if (nextP s 30).1<3 then ⟨(XH (nextP s 30).2 false).1.values,(Z6 (XH (nextP s 30).2 false).1.values.toNat (XH (nextP s 30).2 false).1.blocks (XH (nextP s 30).2 false).2).1⟩else if (nextP s 30).1=3 then (XH (nextP s 30).2 true).1 else if (nextP s 30).1<7 then XJ (XH (nextP s 30).2 false).1.values.toNat (XH (nextP s 30).2 false).1.blocks (XH (nextP s 30).2 false).2 else (XH (nextP s 30).2 false).1):=Xa rfl;have hbw:Hid (B<=w.heap.size):=Xa h.sB;have hsb:Hid (sb<w.heap.size):=Xa (by have:=h.bB;have:=h.sB;omega);have HB0:=Xa (h.box (.cells #[.int .i64 0,.slice none 0 0] 25))
 go_enter Tryd.func11,Tryd.ntmps11
 go_wp2_with fail
 refine(X9 sb B s 30 _ HB0 (by omega) (by omega)).mono ?_;rintro e w1 ⟨rfl,hd,hg⟩;have hl:=XB s (n:=30) (by omega);obtain⟨k,s1,hrs⟩:∃r s9,nextP s 30=(r,s9):=⟨_,_,rfl⟩;rw[hrs]at hd HP hl |-;dsimp only at hd HP hl |-;have HD:=Xa hd;have HG:=Xa hg;have hw1:Hid (w.heap.size<w1.heap.size):=Xa (Nat.lt_of_lt_of_le (by simp) hg.size);clear hd hg hrs h HB0;by_cases h3:k<3
 ·rw[if_pos h3]at HP
  go_wp2_with fail
  refine(Za2 sb B s1 false w1 HD).mono ?_;rintro e w2 ⟨lab,G,n,c,pv,iv,av,V,rfl,hv,hgd⟩;have HGD:=Xa hgd;have HV:=Xa hv;clear hgd hv;rw[HV.out,Int.toNat_natCast]at HP;have HTL:=Xa (ZdE (V:=V) (s:=(XH s1 false).2) (TN s1 false) HGD.sml)
  go_wp2_with fail
  refine(Zel V G n c (XH s1 false).1.blocks lab w1.heap.size pv iv av sb B (XH s1 false).2 w2 (Xa HGD.fn) (Xa HGD.len) HGD.n1 HGD.n11 HGD.gr.size (Xa HGD.fr) (Xa HGD.dr) (by have:=hbw.out;have:=hw1.out;omega) HGD.v (Xa HGD.sml) (Xa HGD.arg)).mono ?_;rintro e w3 ⟨rfl,hls⟩;have HLS:=Xa (WV.after HGD.gr (Nat.le_refl _) hls.spo);clear hls;have HF:Hid (∀u0 u1,Bx w3 w.heap.size #[.int .i64 0,.slice none 0 0] 25/\WV w ((w3.setCell ⟨w.heap.size,0,none⟩ u0).setCell ⟨w.heap.size,1,none⟩ u1) w.heap.size sb (some ⟨G,0,none⟩) (Z6 V (XH s1 false).1.blocks (XH s1 false).2).1):=Xa (fun u0 u1=>WV.fin (u0:=u0) (u1:=u1) hsb.out HG.out hw1.out HLS.out);have f0:w3.cell? ⟨w.heap.size,0,none⟩=some (.int .i64 0):=Bx.cell (HF.out undef undef).1 rfl;have f1:w3.cell? ⟨w.heap.size,1,none⟩=some (.slice none 0 0):=Bx.cell (HF.out undef undef).1 rfl;have fz:=Bx.thaw (HF.out undef undef).1;go_wp2;rw[HP.out];refine bodyPost_ret (v:=.agg #[.int .i64 (V:Int),.slice (some ⟨G,0,none⟩) n c]) (by simp[results,Tryd.results11,go_sem,f0,f1]) rfl ⟨⟨_,n,_,rfl,?_,(HF.out _ _).2⟩,Zap (by show(Z6 V (XH s1 false).1.blocks (XH s1 false).2).1.length<=12;rw[HTL.1];have:=HGD.len;have:=HGD.n11;omega) HTL.2⟩;show n=(Z6 V (XH s1 false).1.blocks (XH s1 false).2).1.length;rw[HTL.1];exact HGD.len
 ·rw[if_neg h3]at HP
  by_cases h4:k=3
  ·have hk:(k==3)=true:=by simpa using h4
   rw[if_pos h4]at HP;clear h4
   go_wp2_with fail
   refine(Za2 sb B s1 true w1 HD).mono ?_;rintro e w2 ⟨lab,G,n,c,pv,iv,av,V,rfl,hv,hgd⟩;have HGD:=Xa hgd;have HV:=Xa hv;clear hgd hv;have HF:Hid (∀u0 u1,Bx w2 w.heap.size #[.int .i64 0,.slice none 0 0] 25/\WV w ((w2.setCell ⟨w.heap.size,0,none⟩ u0).setCell ⟨w.heap.size,1,none⟩ u1) w.heap.size sb (some ⟨G,0,none⟩) (XH s1 true).1.blocks):=Xa (fun u0 u1=>WV.fin (u0:=u0) (u1:=u1) hsb.out HG.out hw1.out HGD.spo);have f0:w2.cell? ⟨w.heap.size,0,none⟩=some (.int .i64 0):=Bx.cell (HF.out undef undef).1 rfl;have f1:w2.cell? ⟨w.heap.size,1,none⟩=some (.slice none 0 0):=Bx.cell (HF.out undef undef).1 rfl;have fz:=Bx.thaw (HF.out undef undef).1;go_wp2;rw[HP.out];refine bodyPost_ret (v:=.agg #[.int .i64 (V:Int),.slice (some ⟨G,0,none⟩) n c]) (by simp[results,Tryd.results11,go_sem,f0,f1]) rfl ⟨⟨_,n,_,by rw[HV.out],?_,(HF.out _ _).2⟩,Zap (by have:=HGD.len;have:=HGD.n11;omega) (Va (TN _ _) HGD.sml)⟩;exact HGD.len
  ·have hk:(k==3)=false:=by simpa using h4
   rw[if_neg h4]at HP;clear h4;by_cases h7:k<7
   ·rw[if_pos h7]at HP
    go_wp2_with fail
    refine(Za2 sb B s1 false w1 HD).mono ?_;rintro e w2 ⟨lab,G,n,c,pv,iv,av,V,rfl,hv,hgd⟩;have HGD:=Xa hgd;have HV:=Xa hv;clear hgd hv;rw[HV.out,Int.toNat_natCast]at HP;have HTL:=Xa (Zeh (V:=V) (s:=(XH s1 false).2) (TN s1 false) HGD.sml)
    go_wp2_with fail
    refine(Zdy V G n c (XH s1 false).1.blocks lab w1.heap.size pv iv av sb B (XH s1 false).2 w2 (Xa HGD.fn) (Xa HGD.len) HGD.n1 HGD.n11 HGD.gr.size (Xa HGD.fr) (Xa HGD.dr) (by have:=hbw.out;have:=hw1.out;omega) HGD.v (Xa HGD.sml) (Xa HGD.arg)).mono ?_;rintro e w3 ⟨a,m,c',rfl,hm,hls⟩;have HLS:=Xa (WV.after HGD.gr (Nat.le_refl _) hls);have HM:=Xa hm;clear hls hm;have HF:Hid (∀u0 u1,Bx w3 w.heap.size #[.int .i64 0,.slice none 0 0] 25/\WV w ((w3.setCell ⟨w.heap.size,0,none⟩ u0).setCell ⟨w.heap.size,1,none⟩ u1) w.heap.size sb a (XJ V (XH s1 false).1.blocks (XH s1 false).2).blocks):=Xa (fun u0 u1=>WV.fin (u0:=u0) (u1:=u1) hsb.out HG.out hw1.out HLS.out);have f0:w3.cell? ⟨w.heap.size,0,none⟩=some (.int .i64 0):=Bx.cell (HF.out undef undef).1 rfl;have f1:w3.cell? ⟨w.heap.size,1,none⟩=some (.slice none 0 0):=Bx.cell (HF.out undef undef).1 rfl;have fz:=Bx.thaw (HF.out undef undef).1;go_wp2;rw[HP.out];refine bodyPost_ret (v:=.agg #[.int .i64 (XJ V (XH s1 false).1.blocks (XH s1 false).2).values,.slice a m c']) (by simp[results,Tryd.results11,go_sem,f0,f1]) rfl ⟨⟨_,m,_,rfl,?_,(HF.out _ _).2⟩,Zap (Nat.le_trans HTL.1 (by have:=HGD.len;have:=HGD.n11;omega)) HTL.2⟩;exact HM.out
   ·rw[if_neg h7]at HP
    go_wp2_with fail
    refine(Za2 sb B s1 false w1 HD).mono ?_;rintro e w2 ⟨lab,G,n,c,pv,iv,av,V,rfl,hv,hgd⟩;have HGD:=Xa hgd;have HV:=Xa hv;clear hgd hv;have HF:Hid (∀u0 u1,Bx w2 w.heap.size #[.int .i64 0,.slice none 0 0] 25/\WV w ((w2.setCell ⟨w.heap.size,0,none⟩ u0).setCell ⟨w.heap.size,1,none⟩ u1) w.heap.size sb (some ⟨G,0,none⟩) (XH s1 false).1.blocks):=Xa (fun u0 u1=>WV.fin (u0:=u0) (u1:=u1) hsb.out HG.out hw1.out HGD.spo);have f0:w2.cell? ⟨w.heap.size,0,none⟩=some (.int .i64 0):=Bx.cell (HF.out undef undef).1 rfl;have f1:w2.cell? ⟨w.heap.size,1,none⟩=some (.slice none 0 0):=Bx.cell (HF.out undef undef).1 rfl;have fz:=Bx.thaw (HF.out undef undef).1;go_wp2;rw[HP.out];refine bodyPost_ret (v:=.agg #[.int .i64 (V:Int),.slice (some ⟨G,0,none⟩) n c]) (by simp[results,Tryd.results11,go_sem,f0,f1]) rfl ⟨⟨_,n,_,by rw[HV.out],?_,(HF.out _ _).2⟩,Zap (by have:=HGD.len;have:=HGD.n11;omega) (Va (TN _ _) HGD.sml)⟩;exact HGD.len
structure DrO(F:Fn)(w w':World)(a:Option Addr)(m:Nat):Prop where
 len:m=F.blocks.length
 low:Below w.heap.size w w'
 at_:Xy w' w.heap.size w'.heap.size a F.blocks
 tot:F.blocks.length+X7 F.blocks<=1048576
theorem ZdN(a:Option Addr)(n c:Nat)(bs:List UInt8)(L B:Nat)(w:World)(ha:Hid (Yg w L B a bs))(hx:Hid (n=bs.length))(hn:n<=1048576)(hB:B<=w.heap.size) :
 Calls Tryd.prog 4 #[.slice a n c] w fun e w'=>∃a' m c',e=.returned (.agg #[.int .i64 (drawF (UW bs)).values,.slice a' m c'])/\DrO (drawF (UW bs)) w w' a' m:=by
 have HA:=Xa (ha.keep (Below.alloc (Below.refl B w) hB (.cells #[.int .i64 0,.slice none 0 0] 25)))
 go_enter Tryd.func4,Tryd.ntmps4
 go_wp2_with fail
 refine(Zcp a n c bs L B _ HA hx hn (by simp;omega)).mono ?_;rintro e w1 ⟨rfl,hb1,hs1,hsr⟩;rw[World.size_alloc]at hb1 hs1 hsr |-;have HD:Hid (Z7 w1 (w.heap.size+1) w1.heap.size (UW bs)):=Xa ⟨hsr,Zg2 bs,hs1,Nat.le_refl _⟩;have HB1:=Xa hb1;have hs2:w.heap.size+2<=w1.heap.size:=by omega
 clear hb1 hs1 hsr HA
 go_wp2_with fail
 refine(Zdo (w.heap.size+1) w1.heap.size (UW bs) w1 HD).mono ?_;rintro e w2 ⟨⟨a',m,c',rfl,hm,ho⟩,ht⟩;have HM:=Xa hm;have HO:=Xa ho;have HT:=Xa ht;clear hm ho ht;have HBX:Hid (Bx w2 w.heap.size #[.int .i64 0,.slice none 0 0] 25):=Xa (((Bx.new w _ _).keep (HB1.block _ (by omega))).keep (HO.low _ (by omega) (by omega)));have f0:w2.cell? ⟨w.heap.size,0,none⟩=some (.int .i64 0):=Bx.cell HBX.out rfl;have f1:w2.cell? ⟨w.heap.size,1,none⟩=some (.slice none 0 0):=Bx.cell HBX.out rfl;have fz:=Bx.thaw HBX.out;go_wp2;refine bodyPost_ret (v:=.agg #[.int .i64 (drawF (UW bs)).values,.slice a' m c']) (by simp[results,Tryd.results4,go_sem,f0,f1]) rfl ⟨a',m,c',rfl,HM.out,?_,?_,HT.out⟩
 ·have k1:Below w.heap.size w w1:=(Below.alloc (Below.refl _ _) (Nat.le_refl _) _).trans (HB1.mono (by omega))
  have k2:Below w.heap.size w w2:=⟨HO.os.trans k1.os,HO.tape.trans k1.tape,HO.output.trans k1.output,Nat.le_trans k1.size HO.size,fun q hq=>(HO.low q (by omega) (by omega)).trans (k1.block q hq)⟩;exact(k2.setCell (p:=⟨w.heap.size,0,none⟩) (Nat.le_refl _) _).setCell (p:=⟨w.heap.size,1,none⟩) (Nat.le_refl _) _
 ·have hS:Yp w1.heap.size w2.heap.size w2 ((w2.setCell ⟨w.heap.size,0,none⟩ (.int .i64 (drawF (UW bs)).values)).setCell ⟨w.heap.size,1,none⟩ (.slice a' m c')):=fun q h1 _=>by
   have hq:q≠w.heap.size:=by omega
   exact(Below.heap_setCell _ _ _ _ hq).trans (Below.heap_setCell _ _ _ _ hq)
  exact(HO.at_.keepS hS).mono (by omega) (by simp[World.setCell])
end Go.Proofs.YtbofmlmdgkblkaaDoor
namespace Go.Proofs.YtbofmlmdgkblkaaDoor
set_option maxHeartbeats 1000000
open Go.RowKit
theorem Zt(a:Option Addr)(n c:Nat)(xs:List Int)(x:Int)(L B:Nat)(w:World)(ha:Hid (Xe w L B a xs))(hx:Hid (n=xs.length))(hn:n<=1048576) :
 Calls Tryd.prog 9 #[.slice a n c,.int .i64 x] w fun e w'=>e=.returned (.bool (xs.contains x))/\w'=w:=by
 go_enter Tryd.func9,Tryd.ntmps9
 go_wp2
 go_loopw [5] (fun u wr=>∃k:Nat,k<=n/\u=.int .i64 k/\wr=w/\Hid ((xs.take k).contains x=false)) (fun u _=>n-(intOf u).toNat)
 case atStart=>exact⟨0,Nat.zero_le _,rfl,rfl,Xa (by simp)⟩
 case round =>
  obtain⟨k,hk,rfl,hw,HC⟩:=hrel;have ew:=hw.symm;subst ew;by_cases hlt:k<n
  ·have hkx:k<xs.length:=by have:=hx.out;omega
   obtain⟨b,o,rfl,hb,hc⟩:=ha.out k hkx;by_cases he:xs[k]=x
   ·have hcb:(xs[k]==x)=true:=by simpa using he
    have HT:Hid (xs.contains x=true):=Xa (by rw[List.contains_iff_mem,<-he];exact List.getElem_mem hkx);clear he;generalize xs[k]=z at *;go_wp2
    go_ret
    simpa using HT.out
   ·have hcb:(xs[k]==x)=false:=by simpa using he
    have HT:Hid ((xs.take (k+1)).contains x=false):=Xa (by
     have h1:=HC.out;rw[List.take_succ_eq_append_getElem hkx];simp only[List.contains_eq_mem,List.mem_append,decide_eq_false_iff_not]at h1 |-;intro h;rcases h with h | h
     ·exact h1 h
     ·simp at h;exact he h.symm)
    clear he;generalize xs[k]=z at *;go_wp2;exact⟨⟨k+1,by omega,by go_num,trivial,HT⟩,by simp[intOf];omega⟩
  ·have hke:k=xs.length:=by have:=hx.out;omega
   have HT:Hid (xs.contains x=false):=Xa (by have:=HC.out;rw[hke,List.take_length]at this;exact this);clear hke;go_wp2
   go_ret
   simpa using HT.out
theorem Zbr(a:Option Addr)(m c:Nat)(bs:List UInt8)(i n:Nat)(L B:Nat)(w:World)(ha:Hid (Yg w L B a bs))(hx:Hid (m=bs.length))(hm:m<=1048576)(hi:i<=1000)(hn:n<=1000000) :
 Calls Tryd.prog 8 #[.slice a m c,.int .i64 (i:Int),.int .i64 (n:Int)] w fun e w'=>∃r:Nat,e=.returned (.int .i64 (r:Int))/\(1<=n->r<n)/\Below w.heap.size w w':=by
 by_cases h1:n<=1
 ·have h1I:(n:Int)<=1:=by omega
  go_enter Tryd.func8,Tryd.ntmps8
  go_wp2
  go_ret
  exact⟨0,rfl,by omega,Below.refl _ _⟩
 ·have h1I:¬(n:Int)<=1:=by omega
  by_cases h0:m=0
  ·subst h0
   have hr:((i:Int)*7).tmod (n:Int)=(((i*7) % n:Nat):Int):=by
    rw[Int.tmod_eq_emod_of_nonneg (by omega)];rw[Int.natCast_emod];rfl
   have hnz:((n:Int)==0)=false:=by simp;omega
   have hlt:(i*7) % n<n:=Nat.mod_lt _ (by omega)
   go_enter Tryd.func8,Tryd.ntmps8
   go_wp2
   go_ret
   exact⟨(i*7) % n,by rw[Int.natCast_emod,Int.natCast_mul];rfl,fun _=>hlt,Below.refl _ _⟩
  ·have h0b:((m:Int)==0)=false:=by simp;omega
   have hm0:0<m:=by omega
   have hq:i % m<bs.length:=by rw[<-hx.out];exact Nat.mod_lt _ hm0
   obtain⟨b,o,rfl,hb,hc⟩:=ha.out (i % m) hq;have hby:bs[i % m].toNat<256:=UInt8.toNat_lt _;have e1:(i:Int).tmod (m:Int)=((i % m:Nat):Int):=by rw[Int.tmod_eq_emod_of_nonneg (by omega),Int.natCast_emod]
   have e2:(i:Int).tdiv (m:Int)=((i / m:Nat):Int):=by rw[Int.tdiv_eq_ediv_of_nonneg (by omega),Int.natCast_ediv]
   have hqm:i % m<m:=Nat.mod_lt _ hm0;have hdl:i / m<=1000:=Nat.le_trans (Nat.div_le_self _ _) hi;generalize bs[i % m].toNat=z at *;have e3:((z:Int)+((i / m:Nat):Int)).tmod (n:Int)=(((z+i / m) % n:Nat):Int):=by
    rw[Int.tmod_eq_emod_of_nonneg (Int.add_nonneg (Int.natCast_nonneg _) (Int.natCast_nonneg _)),Int.natCast_emod,Int.natCast_add]
   have hlt:(z+i / m) % n<n:=Nat.mod_lt _ (by omega);have HLT:=Xa hlt;clear hlt;generalize hqg:i % m=q at *;generalize hdg:i / m=d at *;generalize (z+d) % n=r at *;have hnz:((n:Int)==0)=false:=by simp;omega
   clear hqg hdg
   go_enter Tryd.func8,Tryd.ntmps8
   go_wp2
   go_region
   go_wp2
   go_ret
   exact⟨r,rfl,fun _=>HLT.out,(Below.refl _ _).drew⟩
end Go.Proofs.YtbofmlmdgkblkaaDoor
