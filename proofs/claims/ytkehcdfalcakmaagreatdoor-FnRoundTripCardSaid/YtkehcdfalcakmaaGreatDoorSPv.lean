import Derived.Test.YtkehcdfalcakmaaGreatDoorSPt
namespace Go.Proofs.YtkehcdfalcakmaaGreatDoor
set_option maxHeartbeats 8000000
set_option maxRecDepth 100000
open Go.RowKit
theorem ZiF:SpK 0:=by
 intro V G n c xs lab base pv iv av sb B s s2 w wx b xb hb pa np pc ia ni ic c3 c9 tl hl X;obtain⟨f,rfl⟩:=J2 tl hl;clear hl;obtain⟨q0,q1,q2,q3,q4,q5,qz,f0,f1,fz,HSBX⟩:=X.qs;obtain⟨hn,h1,hn2,hbs,hbb,hV,HSMB,HAG,hbn,HNP,HNI,hni2,hnp2,HSX,HRW,HIV,HP⟩:=X
 conv=>arg 2;whnf
 have e0:((0:Int)==0)=true:=by decide
 have e1:((0:Int)==1)=false:=by decide
 have e2:((0:Int)==2)=false:=by decide
 have e3:((0:Int)==3)=false:=by decide
 have e4:((0:Int)==4)=false:=by decide
 have e5:((0:Int)==5)=false:=by decide
 have e6:((0:Int)==6)=false:=by decide
 have e7:((0:Int)==7)=false:=by decide
 have HPK:Hid (XB V xs s=⟨((V:Int)+(nextP s2 2).1*2-1),xs.set b xs[b]⟩):=Xa (by rw[HP.out,if_neg (by decide)];simp[YD,TO];exact List.set_getElem_self hb);clear HP
 go_upto_if 26 with fail
 go_cut [] from 10 to 180 (fun wz=>Hid (Zi w wz lab base sb B (nextP s2 2).2 ((V:Int)+(nextP s2 2).1*2-1) G n c xs pv iv av b xb (.slice pa np pc) xs[b] (av b)))
 case first =>
  go_wp2_with fail
  refine YZ (fun _=>True) (fun hHeld=>?_);refine Xl 0 ?_;refine Xl 2 ?_;refine wpAnyH_ready (rs:=[1,3]) (by kernel_rfl) (by simp) ?_;refine(AllReadyH.cons rfl (fun K hK=>?_) (AllReadyH.cons rfl (fun K hK=>?_) AllReadyH.nil))
  focus
   go_simp;refine hK _ _ (by first | with_reducible exact hHeld | ((try dsimp only);go_keep)) (fun hHeld=>?_);clear hK
   try simp only[Act.put,xA,xB,xC,xD,xE,xF]
   refine Xw 3 (fun K hK=>?_);go_simp
   go_at_call 30
   refine(Xv sb B s2 2 _ (Xa HSX.drew.dr) (by omega) (by omega)).mono ?_;rintro e w5 ⟨rfl,hd,hg⟩;have HQ5:=Xa (HSX.drew.call hg hd);have hl5:=Xx s2 (n:=2) (by omega);clear hd hg;have k0:w5.cell? ⟨w.heap.size,0,none⟩=some (.int .i64 (V:Int)):=Bx.cell HQ5.box rfl;have kz:=Bx.thaw HQ5.box;generalize (nextP s2 2).1=r5 at *;have hw1:IntKind.i64.wrap (r5*2)=r5*2:=by rw[IntKind.wrap_i64];omega
   have hw2:IntKind.i64.wrap ((V:Int)+r5*2)=(V:Int)+r5*2:=by rw[IntKind.wrap_i64];omega
   have hw3:IntKind.i64.wrap ((V:Int)+r5*2-1)=(V:Int)+r5*2-1:=by rw[IntKind.wrap_i64];omega
   refine hK _ _ trivial (fun hHeld=>?_);clear hK;refine Xl 4 ?_
  rotate_left
  focus
   go_simp
   go_at_call 30
   refine(Xv sb B s2 2 _ (Xa HSX.drew.dr) (by omega) (by omega)).mono ?_;rintro e w5 ⟨rfl,hd,hg⟩;have HQ5:=Xa (HSX.drew.call hg hd);have hl5:=Xx s2 (n:=2) (by omega);clear hd hg;have k0:w5.cell? ⟨w.heap.size,0,none⟩=some (.int .i64 (V:Int)):=Bx.cell HQ5.box rfl;have kz:=Bx.thaw HQ5.box;generalize (nextP s2 2).1=r5 at *;have hw1:IntKind.i64.wrap (r5*2)=r5*2:=by rw[IntKind.wrap_i64];omega
   have hw2:IntKind.i64.wrap ((V:Int)+r5*2)=(V:Int)+r5*2:=by rw[IntKind.wrap_i64];omega
   have hw3:IntKind.i64.wrap ((V:Int)+r5*2-1)=(V:Int)+r5*2-1:=by rw[IntKind.wrap_i64];omega
   refine hK _ _ trivial (fun hHeld=>?_);clear hK
   try simp only[Act.put,xA,xB,xC,xD,xE,xF]
   refine Xl 4 ?_;refine Xw 1 (fun K hK=>?_);go_simp;refine hK _ _ (by first | with_reducible exact hHeld | ((try dsimp only);go_keep)) (fun hHeld=>?_);clear hK
  all_goals (
   refine Xl 5 ?_;refine Xl 6 ?_;refine Xl 7 ?_;refine Xw 8 (fun K hK=>?_);go_simp;refine hK _ _ (by first | with_reducible exact hHeld | ((try dsimp only);go_keep)) (fun hHeld=>?_);clear hK;refine Y7 ?_;clear hHeld
   go_wp2_with fail
   go_meet;exact Xa (HQ5.putV _))
 case rest =>
  have HSY:=Xa hcut.out;clear hcut HSX HRW q0 q1 q2 q3 q4 q5 qz f0 f1 fz;generalize wc=wy at *
  go_upto_if 72 with fail
  go_cut [] from 10 to 180 (fun wz=>Hid (SmW wz wy))
  case first =>
   go_wp2_with fail
   go_meet;exact Xa rfl
  case rest =>
   have e:wc=wy:=hcut.out;subst e;rename_i aK;exact aK _ _ (VG V G n c xs base pv iv av sb B w _ b xb ia ni ic _ _ _ _ _ _ _ _ _ _ _ rfl _ hn hb HIV HPK 0 hni2 (by decide) HSY)
theorem ZiO:SpK 1:=by
 intro V G n c xs lab base pv iv av sb B s s2 w wx b xb hb pa np pc ia ni ic c3 c9 tl hl X;obtain⟨f,rfl⟩:=J2 tl hl;clear hl;obtain⟨q0,q1,q2,q3,q4,q5,qz,f0,f1,fz,HSBX⟩:=X.qs;obtain⟨hn,h1,hn2,hbs,hbb,hV,HSMB,HAG,hbn,HNP,HNI,hni2,hnp2,HSX,HRW,HIV,HP⟩:=X
 conv=>arg 2;whnf
 have e0:((1:Int)==0)=false:=by decide
 have e1:((1:Int)==1)=true:=by decide
 have e2:((1:Int)==2)=false:=by decide
 have e3:((1:Int)==3)=false:=by decide
 have e4:((1:Int)==4)=false:=by decide
 have e5:((1:Int)==5)=false:=by decide
 have e6:((1:Int)==6)=false:=by decide
 have e7:((1:Int)==7)=false:=by decide
 have HPK:Hid (XB V xs s=⟨(V:Int),xs.set b ⟨xs[b].phis,xs[b].instrs,⟨xs[b].term.kind,xs[b].term.a,(n:Int),xs[b].term.els⟩⟩⟩):=Xa (by rw[HP.out,if_neg (by decide)];simp[YD,TO]);clear HP;have HSY:=Xa (HSX.putT ⟨xs[b].term.kind,xs[b].term.a,(n:Int),xs[b].term.els⟩ 4 (.int .i64 (n:Int)) (by rw[HIV.out];rfl));clear HSX HRW
 go_upto_if 72 with fail
 generalize wx.setCell ⟨xb,4,none⟩ (.int .i64 (n:Int))=wy at *;clear q0 q1 q2 q3 q4 q5 qz f0 f1 fz
 go_upto_if 72 with fail
 go_cut [] from 10 to 180 (fun wz=>Hid (SmW wz wy))
 case first =>
  go_wp2_with fail
  go_meet;exact Xa rfl
 case rest =>
  have e:wc=wy:=hcut.out;subst e;rename_i aK;exact aK _ _ (VG V G n c xs base pv iv av sb B w _ b xb ia ni ic _ _ _ _ _ _ _ _ _ _ _ rfl _ hn hb HIV HPK 1 hni2 (by decide) HSY)
theorem Zi6:SpK 2:=by
 intro V G n c xs lab base pv iv av sb B s s2 w wx b xb hb pa np pc ia ni ic c3 c9 tl hl X;obtain⟨f,rfl⟩:=J2 tl hl;clear hl;obtain⟨q0,q1,q2,q3,q4,q5,qz,f0,f1,fz,HSBX⟩:=X.qs;obtain⟨hn,h1,hn2,hbs,hbb,hV,HSMB,HAG,hbn,HNP,HNI,hni2,hnp2,HSX,HRW,HIV,HP⟩:=X
 conv=>arg 2;whnf
 have e0:((2:Int)==0)=false:=by decide
 have e1:((2:Int)==1)=false:=by decide
 have e2:((2:Int)==2)=true:=by decide
 have e3:((2:Int)==3)=false:=by decide
 have e4:((2:Int)==4)=false:=by decide
 have e5:((2:Int)==5)=false:=by decide
 have e6:((2:Int)==6)=false:=by decide
 have e7:((2:Int)==7)=false:=by decide
 have HPK:Hid (XB V xs s=⟨(V:Int),xs.set b ⟨xs[b].phis,xs[b].instrs,⟨xs[b].term.kind,xs[b].term.a,xs[b].term.to,xs[b].term.to⟩⟩⟩):=Xa (by rw[HP.out,if_neg (by decide)];simp[YD,TO]);clear HP;have HSY:=Xa (HSX.putT ⟨xs[b].term.kind,xs[b].term.a,xs[b].term.to,xs[b].term.to⟩ 5 (.int .i64 xs[b].term.to) (by rw[HIV.out];rfl));clear HSX HRW
 go_upto_if 72 with fail
 generalize wx.setCell ⟨xb,5,none⟩ (.int .i64 xs[b].term.to)=wy at *;clear q0 q1 q2 q3 q4 q5 qz f0 f1 fz
 go_upto_if 72 with fail
 go_cut [] from 10 to 180 (fun wz=>Hid (SmW wz wy))
 case first =>
  go_wp2_with fail
  go_meet;exact Xa rfl
 case rest =>
  have e:wc=wy:=hcut.out;subst e;rename_i aK;exact aK _ _ (VG V G n c xs base pv iv av sb B w _ b xb ia ni ic _ _ _ _ _ _ _ _ _ _ _ rfl _ hn hb HIV HPK 2 hni2 (by decide) HSY)
theorem Zi2:SpK 3:=by
 intro V G n c xs lab base pv iv av sb B s s2 w wx b xb hb pa np pc ia ni ic c3 c9 tl hl X;obtain⟨f,rfl⟩:=J2 tl hl;clear hl;obtain⟨q0,q1,q2,q3,q4,q5,qz,f0,f1,fz,HSBX⟩:=X.qs;obtain⟨hn,h1,hn2,hbs,hbb,hV,HSMB,HAG,hbn,HNP,HNI,hni2,hnp2,HSX,HRW,HIV,HP⟩:=X
 conv=>arg 2;whnf
 have e0:((3:Int)==0)=false:=by decide
 have e1:((3:Int)==1)=false:=by decide
 have e2:((3:Int)==2)=false:=by decide
 have e3:((3:Int)==3)=true:=by decide
 have e4:((3:Int)==4)=false:=by decide
 have e5:((3:Int)==5)=false:=by decide
 have e6:((3:Int)==6)=false:=by decide
 have e7:((3:Int)==7)=false:=by decide
 have HPK:Hid (XB V xs s=⟨(V:Int),xs.set b ⟨xs[b].phis,xs[b].instrs,⟨xs[b].term.kind,xs[b].term.a,0,xs[b].term.els⟩⟩⟩):=Xa (by rw[HP.out,if_neg (by decide)];simp[YD,TO]);clear HP;have HSY:=Xa (HSX.putT ⟨xs[b].term.kind,xs[b].term.a,0,xs[b].term.els⟩ 4 (.int .i64 0) (by rw[HIV.out];rfl));clear HSX HRW
 go_upto_if 72 with fail
 generalize wx.setCell ⟨xb,4,none⟩ (.int .i64 0)=wy at *;clear q0 q1 q2 q3 q4 q5 qz f0 f1 fz
 go_upto_if 72 with fail
 go_cut [] from 10 to 180 (fun wz=>Hid (SmW wz wy))
 case first =>
  go_wp2_with fail
  go_meet;exact Xa rfl
 case rest =>
  have e:wc=wy:=hcut.out;subst e;rename_i aK;exact aK _ _ (VG V G n c xs base pv iv av sb B w _ b xb ia ni ic _ _ _ _ _ _ _ _ _ _ _ rfl _ hn hb HIV HPK 3 hni2 (by decide) HSY)
theorem ZiR:SpK 4:=by
 intro V G n c xs lab base pv iv av sb B s s2 w wx b xb hb pa np pc ia ni ic c3 c9 tl hl X;obtain⟨f,rfl⟩:=J2 tl hl;clear hl;obtain⟨q0,q1,q2,q3,q4,q5,qz,f0,f1,fz,HSBX⟩:=X.qs;obtain⟨hn,h1,hn2,hbs,hbb,hV,HSMB,HAG,hbn,HNP,HNI,hni2,hnp2,HSX,HRW,HIV,HP⟩:=X
 conv=>arg 2;whnf
 have e0:((4:Int)==0)=false:=by decide
 have e1:((4:Int)==1)=false:=by decide
 have e2:((4:Int)==2)=false:=by decide
 have e3:((4:Int)==3)=false:=by decide
 have e4:((4:Int)==4)=true:=by decide
 have e5:((4:Int)==5)=false:=by decide
 have e6:((4:Int)==6)=false:=by decide
 have e7:((4:Int)==7)=false:=by decide
 have HPK:Hid (XB V xs s=⟨(V:Int),xs.set b ⟨xs[b].phis,xs[b].instrs,⟨(nextP s2 5).1,xs[b].term.a,xs[b].term.to,xs[b].term.els⟩⟩⟩):=Xa (by rw[HP.out,if_neg (by decide)];simp[YD,TO]);clear HP
 go_wp2_with fail
 refine(Xv sb B s2 5 wx (Xa HSX.dr) (by omega) (by omega)).mono ?_;rintro e w5 ⟨rfl,hd,hg⟩;have HS5:=Xa (HSX.call hg hd);clear hd hg HSX HRW q0 q1 q2 q3 q4 q5 qz f0 f1 fz;have HSY:=Xa (HS5.putT ⟨(nextP s2 5).1,xs[b].term.a,xs[b].term.to,xs[b].term.els⟩ 2 (.int .i64 (nextP s2 5).1) (by rw[HIV.out];rfl));have q2:w5.cell? ⟨xb,2,none⟩=some (.int .i64 xs[b].term.kind):=Bx.cell HS5.xbx rfl;have qz:=Bx.thaw HS5.xbx
 go_upto_if 72 with fail
 generalize w5.setCell ⟨xb,2,none⟩ (.int .i64 (nextP s2 5).1)=wy at *;clear q2 qz HS5
 go_upto_if 72 with fail
 go_cut [] from 10 to 180 (fun wz=>Hid (SmW wz wy))
 case first =>
  go_wp2_with fail
  go_meet;exact Xa rfl
 case rest =>
  have e:wc=wy:=hcut.out;subst e;rename_i aK;exact aK _ _ (VG V G n c xs base pv iv av sb B w _ b xb ia ni ic _ _ _ _ _ _ _ _ _ _ _ rfl _ hn hb HIV HPK 4 hni2 (by decide) HSY)
theorem ZiS:SpK 5:=by
 intro V G n c xs lab base pv iv av sb B s s2 w wx b xb hb pa np pc ia ni ic c3 c9 tl hl X;obtain⟨f,rfl⟩:=J2 tl hl;clear hl;obtain⟨q0,q1,q2,q3,q4,q5,qz,f0,f1,fz,HSBX⟩:=X.qs;obtain⟨hn,h1,hn2,hbs,hbb,hV,HSMB,HAG,hbn,HNP,HNI,hni2,hnp2,HSX,HRW,HIV,HP⟩:=X
 conv=>arg 2;whnf
 have e0:((5:Int)==0)=false:=by decide
 have e1:((5:Int)==1)=false:=by decide
 have e2:((5:Int)==2)=false:=by decide
 have e3:((5:Int)==3)=false:=by decide
 have e4:((5:Int)==4)=false:=by decide
 have e5:((5:Int)==5)=true:=by decide
 have e6:((5:Int)==6)=false:=by decide
 have e7:((5:Int)==7)=false:=by decide
 have HPK:Hid (XB V xs s=⟨(V:Int),xs.set b ⟨xs[b].phis,xs[b].instrs,⟨xs[b].term.kind,(V:Int),xs[b].term.to,xs[b].term.els⟩⟩⟩):=Xa (by rw[HP.out,if_neg (by decide)];simp[YD,TO]);clear HP;have HSY:=Xa (HSX.putT ⟨xs[b].term.kind,(V:Int),xs[b].term.to,xs[b].term.els⟩ 3 (.int .i64 (V:Int)) (by rw[HIV.out];rfl));clear HSX HRW
 go_upto_if 72 with fail
 generalize wx.setCell ⟨xb,3,none⟩ (.int .i64 (V:Int))=wy at *;clear q0 q1 q2 q3 q4 q5 qz f0 f1 fz
 go_upto_if 72 with fail
 go_cut [] from 10 to 180 (fun wz=>Hid (SmW wz wy))
 case first =>
  go_wp2_with fail
  go_meet;exact Xa rfl
 case rest =>
  have e:wc=wy:=hcut.out;subst e;rename_i aK;exact aK _ _ (VG V G n c xs base pv iv av sb B w _ b xb ia ni ic _ _ _ _ _ _ _ _ _ _ _ rfl _ hn hb HIV HPK 5 hni2 (by decide) HSY)
theorem Zi1:SpK 6:=by
 intro V G n c xs lab base pv iv av sb B s s2 w wx b xb hb pa np pc ia ni ic c3 c9 tl hl X;obtain⟨f,rfl⟩:=J2 tl hl;clear hl;obtain⟨q0,q1,q2,q3,q4,q5,qz,f0,f1,fz,HSBX⟩:=X.qs;obtain⟨hn,h1,hn2,hbs,hbb,hV,HSMB,HAG,hbn,HNP,HNI,hni2,hnp2,HSX,HRW,HIV,HP⟩:=X
 conv=>arg 2;whnf
 have e0:((6:Int)==0)=false:=by decide
 have e1:((6:Int)==1)=false:=by decide
 have e2:((6:Int)==2)=false:=by decide
 have e3:((6:Int)==3)=false:=by decide
 have e4:((6:Int)==4)=false:=by decide
 have e5:((6:Int)==5)=false:=by decide
 have e6:((6:Int)==6)=true:=by decide
 have e7:((6:Int)==7)=false:=by decide
 have HPK:Hid (XB V xs s=⟨(V:Int),xs.set b ⟨xs[b].phis++[⟨0,[]⟩],xs[b].instrs,xs[b].term⟩⟩):=Xa (by rw[HP.out,if_neg (by decide)];simp[YD]);clear HP;obtain⟨i0,hi0,hz0,hz1,hz2⟩:=X0 Tryz.infoPhiD;have HOW:=Xa HSX.yph.own;rw[<-HNP.out]at HOW
 go_wp2_with (at_builtin;refine wpList_append_own_at _ rfl _ _ 38 rfl base 46 i0 (.agg #[.int .i64 0,.slice none 0 0]) 2 32 Tryz.underlying38 hi0 hz0 hz1 hz2 rfl (by decide) (.slice pa np pc) np (XU (av b) xs[b].phis) rfl (HOW.alloc _) ⟨wx.heap.size,0,none⟩ 1 1 [.int .i64 0,.slice none 0 0] rfl rfl (World.news_of_block (World.alloc_heap_new _ _)) ?c2 ?c3 ?c4 ?c5 ?_)
 case c2=>intro u hu;simp at hu;rcases hu with rfl | rfl<;>rfl
 case c3=>unfold maxLen;omega
 case c4=>omega
 case c5=>simp;have:=HSX.size;omega
 intro v8 w8 hown8 hg8 hne8 hat8;obtain⟨hx8,lab8,hs8⟩:=HSX.push hg8 hown8 (by rw[HNP.out]) (by rw[World.size_alloc];exact hat8);obtain⟨g8,c8,rfl,hgb8,hcap⟩:=Xj hown8 (by omega);clear hgb8 hcap hne8 hat8 hown8 hg8 q0 q1 q2 q3 q4 q5 qz f0 f1 fz HSX HRW HOW;have q0:w8.cell? ⟨xb,0,none⟩=some (.slice pa np pc):=Bx.cell hx8 rfl;have qz:=Bx.thaw hx8;have HSY:=Xa hs8;clear hx8 hs8
 go_upto_if 72 with fail
 generalize w8.setCell ⟨xb,0,none⟩ (.slice (some ⟨g8,0,none⟩) (np+1) c8)=wy at *;clear q0 qz
 go_upto_if 72 with fail
 go_cut [] from 10 to 180 (fun wz=>Hid (SmW wz wy))
 case first =>
  go_wp2_with fail
  go_meet;exact Xa rfl
 case rest =>
  have e:wc=wy:=hcut.out;subst e;rename_i aK;exact aK _ _ (VG V G n c xs base pv iv av sb B w _ b xb ia ni ic _ _ _ _ _ _ _ _ _ _ _ rfl _ hn hb HIV HPK 6 hni2 (by decide) HSY)
theorem Zi0:SpK 7:=by
 intro V G n c xs lab base pv iv av sb B s s2 w wx b xb hb pa np pc ia ni ic c3 c9 tl hl X;obtain⟨f,rfl⟩:=J2 tl hl;clear hl;obtain⟨q0,q1,q2,q3,q4,q5,qz,f0,f1,fz,HSBX⟩:=X.qs;obtain⟨hn,h1,hn2,hbs,hbb,hV,HSMB,HAG,hbn,HNP,HNI,hni2,hnp2,HSX,HRW,HIV,HP⟩:=X
 conv=>arg 2;whnf
 have e0:((7:Int)==0)=false:=by decide
 have e1:((7:Int)==1)=false:=by decide
 have e2:((7:Int)==2)=false:=by decide
 have e3:((7:Int)==3)=false:=by decide
 have e4:((7:Int)==4)=false:=by decide
 have e5:((7:Int)==5)=false:=by decide
 have e6:((7:Int)==6)=false:=by decide
 have e7:((7:Int)==7)=true:=by decide
 have HPK:Hid (XB V xs s=⟨(V:Int),[]⟩):=Xa (by rw[HP.out,if_pos rfl]);have fz2:=Bx.thaw (HSX.box.box (.cells #[] 43));have hbl:=HSX.box.lt;have hsx:=HSX.size;have hrl:=HSX.res.lt;have HB:Hid (Bx ((wx.setCell ⟨w.heap.size,1,none⟩ (.slice (some ⟨wx.heap.size,0,none⟩) 0 0)).alloc (.cells #[] 43)) w.heap.size #[.int .i64 (V:Int),.slice (some ⟨wx.heap.size,0,none⟩) 0 0] 25/\Bx ((wx.setCell ⟨w.heap.size,1,none⟩ (.slice (some ⟨wx.heap.size,0,none⟩) 0 0)).alloc (.cells #[] 43)) (w.heap.size+1) #[.int .i64 0,.slice none 0 0] 25/\Below base wx ((wx.setCell ⟨w.heap.size,1,none⟩ (.slice (some ⟨wx.heap.size,0,none⟩) 0 0)).alloc (.cells #[] 43))):=Xa ⟨by
  have:=(HSX.box.set 1 (.slice (some ⟨wx.heap.size,0,none⟩) 0 0)).box (.cells #[] 43);simpa using this,(HSX.res.other (by omega)).box _,Below.alloc ((Below.refl base wx).setCell (p:=⟨w.heap.size,1,none⟩) hbs _) (by simp[World.setCell];omega) _⟩
 go_upto_region 21 with fail
 clear q0 q1 q2 q3 q4 q5 qz f0 f1 fz fz2;generalize ((wx.setCell ⟨w.heap.size,1,none⟩ (.slice (some ⟨wx.heap.size,0,none⟩) 0 0)).alloc (.cells #[] 43))=w7 at *;have f0:w7.cell? ⟨w.heap.size,0,none⟩=some (.int .i64 (V:Int)):=Bx.cell HB.1 rfl;have f1:w7.cell? ⟨w.heap.size,1,none⟩=some (.slice (some ⟨wx.heap.size,0,none⟩) 0 0):=Bx.cell HB.1 rfl;have r3:w7.cell? ⟨w.heap.size+1,0,none⟩=some (.int .i64 0):=Bx.cell HB.2.1 rfl;have r4:w7.cell? ⟨w.heap.size+1,1,none⟩=some (.slice none 0 0):=Bx.cell HB.2.1 rfl;have rz:=Bx.thaw HB.2.1;go_wp2;rw[HPK.out];refine bodyPost_ret (v:=.agg #[.int .i64 (V:Int),.slice (some ⟨wx.heap.size,0,none⟩) 0 0]) (by simp[results,Tryz.results55,go_sem,r3,r4]) rfl ⟨_,0,0,rfl,rfl,?_⟩;have hg1:base<=w.heap.size+1:=by omega
 have hB:=(HB.2.2.setCell (p:=⟨w.heap.size+1,0,none⟩) hg1 (.int .i64 (V:Int))).setCell (p:=⟨w.heap.size+1,1,none⟩) hg1 (.slice (some ⟨wx.heap.size,0,none⟩) 0 0);exact⟨fun i hi=>absurd hi (by simp),hB.os.trans HSX.os,hB.tape.trans HSX.tape,hB.output.trans HSX.output,Nat.le_trans HSX.size hB.size,fun q h1 h2=>(hB.block q h1).trans (HSX.low q h1 h2)⟩
end Go.Proofs.YtkehcdfalcakmaaGreatDoor
