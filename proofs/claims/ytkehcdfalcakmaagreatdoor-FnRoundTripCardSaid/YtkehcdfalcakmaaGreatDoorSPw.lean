import Derived.Test.YtkehcdfalcakmaaGreatDoorSPt
namespace Go.Proofs.YtkehcdfalcakmaaGreatDoor
set_option maxHeartbeats 8000000
set_option maxRecDepth 100000
open Go.RowKit
theorem Zi9:SpK 8:=by
 intro V G n c xs lab base pv iv av sb B s s2 w wx b xb hb pa np pc ia ni ic c3 c9 tl hl X;obtain⟨f,rfl⟩:=J2 tl hl;clear hl;obtain⟨q0,q1,q2,q3,q4,q5,qz,f0,f1,fz,HSBX⟩:=X.qs;obtain⟨hn,h1,hn2,hbs,hbb,hV,HSMB,HAG,hbn,HNP,HNI,hni2,hnp2,HSX,HRW,HIV,HP⟩:=X
 conv=>arg 2;whnf
 have e0:((8:Int)==0)=false:=by decide
 have e1:((8:Int)==1)=false:=by decide
 have e2:((8:Int)==2)=false:=by decide
 have e3:((8:Int)==3)=false:=by decide
 have e4:((8:Int)==4)=false:=by decide
 have e5:((8:Int)==5)=false:=by decide
 have e6:((8:Int)==6)=false:=by decide
 have e7:((8:Int)==7)=false:=by decide
 have e8:((8:Int)==8)=true:=by decide
 have e9:((8:Int)==9)=false:=by decide
 have e10:((8:Int)==10)=false:=by decide
 go_upto_if 79 with fail
 go_cut [] from 10 to 180 (fun wz=>∃labz sz yz ayz,Hid (Zi w wz labz base sb B sz (V:Int) G n c xs pv iv av b xb (.slice pa np pc) yz ayz)/\Hid (XB V xs s=⟨(V:Int),xs.set b yz⟩))
 case first =>
  by_cases hnp:0<np
  ·have hnpI:(0:Int)<np:=by omega
   have hnx:0<xs[b].phis.length:=by rw[<-HNP.out];exact hnp
   have HPK:Hid (XB V xs s=⟨(V:Int),xs.set b ⟨xs[b].phis.set 0 ⟨xs[b].phis[0].dst,(xs[b].phis[0].args++[0])⟩,xs[b].instrs,xs[b].term⟩⟩):=Xa (by rw[HP.out,if_neg (by decide)];simp[YD,Vu,hnx]);clear HP;obtain⟨gp,cp,e⟩:=(HSX.yph).got hnx;rw[<-HNP.out]at e;injection e with e1 _ e3;subst e1 e3;have hna0':=HAG.out _ (List.getElem_mem hnx);have hna1:=HSMB.2.1 _ (List.getElem_mem hnx);obtain⟨ga,ac,hav⟩:=(HRW.out 0 hnx).got hna0';obtain⟨na,hna⟩:∃na,na=xs[b].phis[0].args.length:=⟨_,rfl⟩;have hr0:=HRW.out 0 hnx;rw[hav,<-hna]at hr0;rw[<-hna]at hav;have HNA:=Xa hna;have hna0:0<na:=by omega
   have hnab:na<=1000:=by omega
   rw[hna]at hr0;have HR0:Hid (Xq wx lab (4,b,0) base 2 1 (.slice (some ⟨ga,0,none⟩) na ac) xs[b].phis[0].args.length (Xo xs[b].phis[0].args)):=Xa (by rw[hna];exact hr0);have HAV:=Xa hav;clear hr0 hna hav HRW;have c1:=(HSX.pcells hnx rfl).1;rw[HAV.out]at c1;clear q2 q3 q4 q5;obtain⟨c1g,zg,hxg,hbg⟩:=HSX.pcells hnx rfl;rw[HAV.out]at c1g;obtain⟨j0,hj0,hy0,hy1,hy2⟩:=X0 Tryz.info2';have HD1:=Xa HSX.drew;have HRD:Hid (Xq wx.drew lab (4,b,0) base 2 1 (.slice (some ⟨ga,0,none⟩) na ac) xs[b].phis[0].args.length (Xo xs[b].phis[0].args)):=Xa (HR0.sp (⟨Nat.le_refl _,fun _ _ _ _=>⟨rfl,rfl⟩,fun h=>h⟩:XK wx wx.drew lab lab base (fun _=>True)) (fun _ _=>trivial));have hsx:=HSX.size;have cal:=((HSX.alloc (.cells #[.int .i64 0] 2)).pcells hnx rfl).1;rw[HAV.out]at cal
   go_wp2_with fail
   refine YZ (fun w'=>w'.cell? ⟨xb,0,none⟩=some (.slice (some ⟨gp,0,none⟩) np pc)) (fun hHeld=>?_);refine Xl 0 ?_;refine Xl 1 ?_;refine Xl 2 ?_;refine Xl 3 ?_;refine Xl 4 ?_;refine Xl 5 ?_;refine wpAnyH_ready (rs:=[6,7]) (by kernel_rfl) (by simp) ?_;refine(AllReadyH.cons rfl (fun K hK=>?_) (AllReadyH.cons rfl (fun K hK=>?_) AllReadyH.nil))
   focus
    go_simp;refine hK _ _ (by first | with_reducible exact hHeld | ((try dsimp only);go_keep)) (fun hHeld=>?_);clear hK
    try simp only[Act.put,xA,xB,xC,xD,xE,xF]
    refine Xw 7 (fun K hK=>?_);go_simp;refine hK _ _ (by first | with_reducible exact hHeld | ((try dsimp only);go_keep)) (fun hHeld=>?_);clear hK
   rotate_left
   focus
    go_simp;refine hK _ _ (by first | with_reducible exact hHeld | ((try dsimp only);go_keep)) (fun hHeld=>?_);clear hK
    try simp only[Act.put,xA,xB,xC,xD,xE,xF]
    refine Xw 6 (fun K hK=>?_);go_simp;refine hK _ _ (by first | with_reducible exact hHeld | ((try dsimp only);go_keep)) (fun hHeld=>?_);clear hK
   all_goals (
    refine Xw 8 (fun K hK=>?_);refine Zh rfl _ _ 44 rfl base 2 j0 (.int .i64 0) 1 8 Tryz.underlying44 hj0 hy0 hy1 hy2 rfl (by decide) (.slice (some ⟨ga,0,none⟩) na ac) xs[b].phis[0].args.length (Xo xs[b].phis[0].args) rfl ?s1 ⟨wx.heap.size,0,none⟩ 1 1 [.int .i64 0] rfl rfl ?s2 ?s3 ?s4 ?s5 ?s6 ?_
    case s1=>exact HRD.own.alloc _
    case s2=>exact YB wx.drew _ _
    case s3=>intro u hu;simp at hu;subst hu;rfl
    case s4=>unfold maxLen;have:=HNA.out;omega
    case s5=>have:=HNA.out;omega
    case s6=>simp;omega
    intro v8 w8 hown8 hg8 hne8 hat8;obtain⟨⟨hx8,hc8,hz8⟩,lab8,hs8⟩:=HD1.push0 rfl hnx HRD.out hg8 hown8 rfl hat8;obtain⟨g8,c8',rfl,hgb8,hcap⟩:=Xj hown8 (by omega);have k0:w8.cell? ⟨xb,0,none⟩=some (.slice (some ⟨gp,0,none⟩) np pc):=Bx.cell hx8 rfl;have HS8:=Xa hs8;rw[HAV.out]at hc8;clear hgb8 hcap hne8 hat8 hown8 hg8 hs8 hx8;refine hK _ _ k0 (fun hHeld=>?_);clear hK;refine Xl 9 ?_;refine Xl 10 ?_;refine Xw 11 (fun K hK=>?_);go_simp;refine hK _ _ ((Xc (Below.heap_setCell _ _ _ _ hxg)).trans k0) (fun hHeld=>?_);clear hK;refine Y7 ?_;clear hHeld
    go_wp2_with fail
    go_meet;exact⟨_,_,_,_,HS8,HPK⟩)
  ·have hnpI:¬(0:Int)<np:=by omega
   have hnx:¬0<xs[b].phis.length:=by rw[<-HNP.out];exact hnp
   have HPK:Hid (XB V xs s=⟨(V:Int),xs.set b xs[b]⟩):=Xa (by rw[HP.out,if_neg (by decide)];simp[YD,hnx])
   go_wp2_with fail
   go_meet;exact⟨_,_,_,_,HSX,HPK⟩
 case rest =>
  obtain⟨labz,sz,yz,ayz,HSY,HPK⟩:=hcut;rename_i aK;exact aK _ _ (Zdb V G n c xs base pv iv av sb B w _ b xb ia ni ic _ _ _ _ _ _ _ _ _ _ _ rfl _ hn hb HIV HPK 8 hni2 (by decide) HSY)
theorem ZiA:SpK 9:=by
 intro V G n c xs lab base pv iv av sb B s s2 w wx b xb hb pa np pc ia ni ic c3 c9 tl hl X;obtain⟨f,rfl⟩:=J2 tl hl;clear hl;obtain⟨q0,q1,q2,q3,q4,q5,qz,f0,f1,fz,HSBX⟩:=X.qs;obtain⟨hn,h1,hn2,hbs,hbb,hV,HSMB,HAG,hbn,HNP,HNI,hni2,hnp2,HSX,HRW,HIV,HP⟩:=X
 conv=>arg 2;whnf
 have e0:((9:Int)==0)=false:=by decide
 have e1:((9:Int)==1)=false:=by decide
 have e2:((9:Int)==2)=false:=by decide
 have e3:((9:Int)==3)=false:=by decide
 have e4:((9:Int)==4)=false:=by decide
 have e5:((9:Int)==5)=false:=by decide
 have e6:((9:Int)==6)=false:=by decide
 have e7:((9:Int)==7)=false:=by decide
 have e8:((9:Int)==8)=false:=by decide
 have e9:((9:Int)==9)=true:=by decide
 have e10:((9:Int)==10)=false:=by decide
 go_upto_if 79 with fail
 go_cut [] from 10 to 180 (fun wz=>∃labz sz yz ayz,Hid (Zi w wz labz base sb B sz (V:Int) G n c xs pv iv av b xb (.slice pa np pc) yz ayz)/\Hid (XB V xs s=⟨(V:Int),xs.set b yz⟩))
 case first =>
  by_cases hnp:0<np
  ·have hnpI:(0:Int)<np:=by omega
   have hnx:0<xs[b].phis.length:=by rw[<-HNP.out];exact hnp
   have HPK:Hid (XB V xs s=⟨(V:Int),xs.set b ⟨xs[b].phis.set 0 ⟨xs[b].phis[0].dst,(xs[b].phis[0].args.set 0 ((V:Int)*(nextP s2 2).1))⟩,xs[b].instrs,xs[b].term⟩⟩):=Xa (by rw[HP.out,if_neg (by decide)];simp[YD,Vu,hnx]);clear HP;obtain⟨gp,cp,e⟩:=(HSX.yph).got hnx;rw[<-HNP.out]at e;injection e with e1 _ e3;subst e1 e3;have hna0':=HAG.out _ (List.getElem_mem hnx);have hna1:=HSMB.2.1 _ (List.getElem_mem hnx);obtain⟨ga,ac,hav⟩:=(HRW.out 0 hnx).got hna0';obtain⟨na,hna⟩:∃na,na=xs[b].phis[0].args.length:=⟨_,rfl⟩;have hr0:=HRW.out 0 hnx;rw[hav,<-hna]at hr0;rw[<-hna]at hav;have HNA:=Xa hna;have hna0:0<na:=by omega
   have hnab:na<=1000:=by omega
   rw[hna]at hr0;have HR0:Hid (Xq wx lab (4,b,0) base 2 1 (.slice (some ⟨ga,0,none⟩) na ac) xs[b].phis[0].args.length (Xo xs[b].phis[0].args)):=Xa (by rw[hna];exact hr0);have HAV:=Xa hav;clear hr0 hna hav HRW;have c1:=(HSX.pcells hnx rfl).1;rw[HAV.out]at c1;clear q2 q3 q4 q5;have hga:ga≠gp:=fun e=>by have h1:=HR0.lab ga rfl;have h2:=HSX.yph.lab gp rfl;rw[e,h2]at h1;simp at h1
   have hgx:xb≠ga:=fun e=>by have h1:=HR0.lab ga rfl;rw[<-e,HSX.xbl]at h1;simp at h1
   have hgb:w.heap.size≠ga:=fun e=>by have h1:=HR0.lab ga rfl;rw[<-e,HSX.boxl]at h1;simp at h1
   go_wp2_with fail
   refine YZ (fun w'=>w'.cell? ⟨xb,0,none⟩=some (.slice (some ⟨gp,0,none⟩) np pc)/\w'.cell? ⟨gp,1,none⟩=some (.slice (some ⟨ga,0,none⟩) na ac)/\w'.cell? ⟨w.heap.size,0,none⟩=some (.int .i64 (V:Int))) (fun hHeld=>?_);refine Xl 0 ?_;refine Xl 1 ?_;refine Xl 2 ?_;refine Xl 3 ?_;refine Xl 4 ?_;refine Xl 5 ?_;refine Xl 6 ?_;refine Xl 7 ?_;refine Xw 8 (fun K hK=>?_);go_simp
   go_at_call 30
   refine(Xv sb B s2 2 _ (Xa HSX.drew.dr) (by omega) (by omega)).mono ?_;rintro e w5 ⟨rfl,hd,hg⟩;have HQ5:=Xa (HSX.drew.call hg hd);have hl5:=Xx s2 (n:=2) (by omega);have HR5:Hid (Xq w5 lab (4,b,0) base 2 1 (.slice (some ⟨ga,0,none⟩) na ac) xs[b].phis[0].args.length (Xo xs[b].phis[0].args)):=Xa ((HR0.sp (⟨Nat.le_refl _,fun _ _ _ _=>⟨rfl,rfl⟩,fun h=>h⟩:XK wx wx.drew lab lab base (fun _=>True)) (fun _ _=>trivial)).sp (XK.grown hg HSX.lt) (fun _ _=>trivial));clear hd hg;have b0:w5.cell? ⟨xb,0,none⟩=some (.slice (some ⟨gp,0,none⟩) np pc):=Bx.cell HQ5.xbx rfl;have b2:w5.cell? ⟨w.heap.size,0,none⟩=some (.int .i64 (V:Int)):=Bx.cell HQ5.box rfl;have b1:=(HQ5.pcells hnx rfl).1;rw[HAV.out]at b1;have hr5:=HR5.out;rw[<-HNA.out]at hr5;have b3:w5.cell? ⟨ga,0,none⟩=some (.int .i64 xs[b].phis[0].args[0]):=hr5.cell (by unfold Xo;simp[hna0']);have b4:=hr5.thaw 0;clear hr5;generalize hr5:(nextP s2 2).1=r5 at *;have hw1:IntKind.i64.wrap ((V:Int)*r5)=(V:Int)*r5:=by
    have h01:r5=0\/r5=1:=by omega
    rcases h01 with h | h
    ·rw[h,Int.mul_zero,IntKind.wrap_i64];omega
    ·rw[h,Int.mul_one,IntKind.wrap_i64];omega
   refine hK _ _ ⟨b0,b1,b2⟩ (fun hHeld=>?_);clear hK;refine Xl 9 ?_;refine Xl 10 ?_;refine Xw 11 (fun K hK=>?_);go_simp;refine hK _ _ ⟨(Xc (Below.heap_setCell _ _ _ _ hgx)).trans b0,(Xc (Below.heap_setCell _ _ _ _ (Ne.symm hga))).trans b1,(Xc (Below.heap_setCell _ _ _ _ hgb)).trans b2⟩ (fun hHeld=>?_);clear hK;refine Y7 ?_;clear hHeld
   go_wp2_with fail
   go_meet;exact⟨_,_,_,_,Xa (HQ5.setA (m:=0) (z:=(V:Int)*r5) hnx HR5.out HAV.out),HPK⟩
  ·have hnpI:¬(0:Int)<np:=by omega
   have hnx:¬0<xs[b].phis.length:=by rw[<-HNP.out];exact hnp
   have HPK:Hid (XB V xs s=⟨(V:Int),xs.set b xs[b]⟩):=Xa (by rw[HP.out,if_neg (by decide)];simp[YD,hnx])
   go_wp2_with fail
   go_meet;exact⟨_,_,_,_,HSX,HPK⟩
 case rest =>
  obtain⟨labz,sz,yz,ayz,HSY,HPK⟩:=hcut;rename_i aK;exact aK _ _ (Zdb V G n c xs base pv iv av sb B w _ b xb ia ni ic _ _ _ _ _ _ _ _ _ _ _ rfl _ hn hb HIV HPK 9 hni2 (by decide) HSY)
theorem Ziw:SpK 10:=by
 intro V G n c xs lab base pv iv av sb B s s2 w wx b xb hb pa np pc ia ni ic c3 c9 tl hl X;obtain⟨f,rfl⟩:=J2 tl hl;clear hl;obtain⟨q0,q1,q2,q3,q4,q5,qz,f0,f1,fz,HSBX⟩:=X.qs;obtain⟨hn,h1,hn2,hbs,hbb,hV,HSMB,HAG,hbn,HNP,HNI,hni2,hnp2,HSX,HRW,HIV,HP⟩:=X
 conv=>arg 2;whnf
 have e0:((10:Int)==0)=false:=by decide
 have e1:((10:Int)==1)=false:=by decide
 have e2:((10:Int)==2)=false:=by decide
 have e3:((10:Int)==3)=false:=by decide
 have e4:((10:Int)==4)=false:=by decide
 have e5:((10:Int)==5)=false:=by decide
 have e6:((10:Int)==6)=false:=by decide
 have e7:((10:Int)==7)=false:=by decide
 have e8:((10:Int)==8)=false:=by decide
 have e9:((10:Int)==9)=false:=by decide
 have e10:((10:Int)==10)=true:=by decide
 go_upto_if 79 with fail
 go_cut [] from 10 to 180 (fun wz=>∃labz sz yz ayz,Hid (Zi w wz labz base sb B sz (V:Int) G n c xs pv iv av b xb (.slice pa np pc) yz ayz)/\Hid (XB V xs s=⟨(V:Int),xs.set b yz⟩))
 case first =>
  by_cases hnp:0<np
  ·have hnpI:(0:Int)<np:=by omega
   have hnx:0<xs[b].phis.length:=by rw[<-HNP.out];exact hnp
   have HPK:Hid (XB V xs s=⟨(V:Int),xs.set b ⟨xs[b].phis.set 0 ⟨xs[b].phis[0].dst,(xs[b].phis[0].args.drop 1)⟩,xs[b].instrs,xs[b].term⟩⟩):=Xa (by rw[HP.out,if_neg (by decide)];simp[YD,Vu,hnx]);clear HP;obtain⟨gp,cp,e⟩:=(HSX.yph).got hnx;rw[<-HNP.out]at e;injection e with e1 _ e3;subst e1 e3;have hna0':=HAG.out _ (List.getElem_mem hnx);have hna1:=HSMB.2.1 _ (List.getElem_mem hnx);obtain⟨ga,ac,hav⟩:=(HRW.out 0 hnx).got hna0';obtain⟨na,hna⟩:∃na,na=xs[b].phis[0].args.length:=⟨_,rfl⟩;have hr0:=HRW.out 0 hnx;rw[hav,<-hna]at hr0;rw[<-hna]at hav;have HNA:=Xa hna;have hna0:0<na:=by omega
   have hnab:na<=1000:=by omega
   rw[hna]at hr0;have HR0:Hid (Xq wx lab (4,b,0) base 2 1 (.slice (some ⟨ga,0,none⟩) na ac) xs[b].phis[0].args.length (Xo xs[b].phis[0].args)):=Xa (by rw[hna];exact hr0);have HAV:=Xa hav;clear hr0 hna hav HRW;have c1:=(HSX.pcells hnx rfl).1;rw[HAV.out]at c1;clear q2 q3 q4 q5;obtain⟨c1g,zg,hxg,hbg⟩:=HSX.pcells hnx rfl;rw[HAV.out]at c1g;have hnaI:(1:Int)<=na:=by omega
   have hcap:na<=ac:=by
    obtain⟨g,cc,e,_,hc⟩:=Xj HR0.own hna0';injection e with _ _ e3;rw[e3,HNA.out];exact hc
   have HIL:Hid (JA wx.drew lab (4,b,0) base (.slice (if ac=1 then some ⟨ga,0,none⟩else some ⟨ga,1,none⟩) (na-1) (ac-1)) (xs[b].phis[0].args.drop 1)):=Xa (by
    refine⟨_,_,by rw[List.length_drop,<-HNA.out],fun i hi=>?_⟩;rw[List.length_drop,<-HNA.out]at hi;rw[if_neg (by omega)];have hr:=HR0.out;rw[<-HNA.out]at hr;refine⟨ga,1,rfl,hr.blk.1,hr.blk.2,?_⟩;have hr2:wx.cell? ⟨ga,1+i,none⟩=some (.int .i64 (xs[b].phis[0].args[1+i]'(by rw[<-HNA.out];omega))):=hr.cell (by unfold Xo;rw[List.getElem?_map,List.getElem?_eq_getElem (by rw[<-HNA.out];omega)];rfl);rw[List.getElem_drop];exact hr2)
   by_cases hac:ac=1
   ·rw[if_pos hac,show ac-1=0 by omega]at HIL
    go_wp2_with fail
    refine YZ (fun w'=>w'.cell? ⟨xb,0,none⟩=some (.slice (some ⟨gp,0,none⟩) np pc)) (fun hHeld=>?_);refine Xl 0 ?_;refine Xl 1 ?_;refine Xl 2 ?_;refine Xl 3 ?_;refine Xl 4 ?_;refine Xl 5 ?_;refine Xw 6 (fun K hK=>?_);go_simp;refine hK _ _ (by first | with_reducible exact hHeld | ((try dsimp only);go_keep)) (fun hHeld=>?_);clear hK;refine Xl 7 ?_;refine Xl 8 ?_;refine Xl 9 ?_;refine Xw 10 (fun K hK=>?_);go_simp;refine hK _ _ ((Xc (Below.heap_setCell _ _ _ _ hxg)).trans q0) (fun hHeld=>?_);clear hK;refine Y7 ?_;clear hHeld
    go_wp2_with fail
    go_meet;exact⟨_,_,_,_,Xa (HSX.drew.setPh (j:=0) rfl hnx HIL.out),HPK⟩
   ·rw[if_neg hac]at HIL
    go_wp2_with fail
    refine YZ (fun w'=>w'.cell? ⟨xb,0,none⟩=some (.slice (some ⟨gp,0,none⟩) np pc)) (fun hHeld=>?_);refine Xl 0 ?_;refine Xl 1 ?_;refine Xl 2 ?_;refine Xl 3 ?_;refine Xl 4 ?_;refine Xl 5 ?_;refine Xw 6 (fun K hK=>?_);go_simp;refine hK _ _ (by first | with_reducible exact hHeld | ((try dsimp only);go_keep)) (fun hHeld=>?_);clear hK;refine Xl 7 ?_;refine Xl 8 ?_;refine Xl 9 ?_;refine Xw 10 (fun K hK=>?_);go_simp;refine hK _ _ ((Xc (Below.heap_setCell _ _ _ _ hxg)).trans q0) (fun hHeld=>?_);clear hK;refine Y7 ?_;clear hHeld
    go_wp2_with fail
    go_meet;exact⟨_,_,_,_,Xa (HSX.drew.setPh (j:=0) rfl hnx HIL.out),HPK⟩
  ·have hnpI:¬(0:Int)<np:=by omega
   have hnx:¬0<xs[b].phis.length:=by rw[<-HNP.out];exact hnp
   have HPK:Hid (XB V xs s=⟨(V:Int),xs.set b xs[b]⟩):=Xa (by rw[HP.out,if_neg (by decide)];simp[YD,hnx])
   go_wp2_with fail
   go_meet;exact⟨_,_,_,_,HSX,HPK⟩
 case rest =>
  obtain⟨labz,sz,yz,ayz,HSY,HPK⟩:=hcut;rename_i aK;exact aK _ _ (Zdb V G n c xs base pv iv av sb B w _ b xb ia ni ic _ _ _ _ _ _ _ _ _ _ _ rfl _ hn hb HIV HPK 10 hni2 (by decide) HSY)
end Go.Proofs.YtkehcdfalcakmaaGreatDoor
