import Derived.Test.YtdfdmjcngkfciaaDoorTN4
import Derived.Test.YtdfdmjcngkfciaaDoorDRb
namespace Go.Proofs.YtdfdmjcngkfciaaDoor
open Go.RowKit
set_option maxHeartbeats 8000000 in
set_option maxRecDepth 100000 in
theorem spoil_j (V G n c:Nat) (xs:List Blk) (lab:Nat→Nat × Nat × Nat) (base:Nat) (pv iv:Nat→Value) (av:Nat→Nat→Value) (sb B:Nat) (s:Sr) (w:World) (hF:Hid (FnL w lab base (.slice (some ⟨G,0,none⟩) n c) xs pv iv av)) (hn:Hid (n=xs.length)) (h1:1≤n) (hn2:n≤11) (hbs:base≤w.heap.size) (hfr:Hid (∀b,w.heap.size≤b→lab b=(0,0,0))) (hdr:Hid (DrA w sb B s)) (hbb:B≤base) (_hV:V≤1000) (hsm:Hid (SmlB xs)) (harg:Hid (PhA xs)) (hkr:Hid (10≤(nextP s 16).1∧(nextP s 16).1≤10)) :
  Calls Tryd.prog 30 #[.agg #[.int .i64 (V:Int),.slice (some ⟨G,0,none⟩) n c],.pointer (some ⟨sb,0,none⟩)] w fun e w'=>SpE (spoilP V xs s) w base sb e w':=by
 have HP:Hid (spoilP V xs s=if (nextP s 16).1=7 then ⟨V,[]⟩ else ⟨if (nextP s 16).1=0 then (V:Int)+(nextP (nextP (nextP s 16).2 (n:Int)).2 2).1*2-1 else V,xs.set (nextP (nextP s 16).2 (n:Int)).1.toNat (spoilB (nextP s 16).1 V n (nextP (nextP s 16).2 (n:Int)).2 (xs.getD (nextP (nextP s 16).2 (n:Int)).1.toNat dBlk))⟩):=hide (by rw [hn.out];rfl)
 have HS0:Hid (LsS w ((w.alloc (.cells #[.int .i64 (V:Int),.slice (some ⟨G,0,none⟩) n c] 25)).alloc (.cells #[.int .i64 0,.slice none 0 0] 25)) lab base sb B s V G n c xs pv iv av):=hide (by
  have k:SpL w ((w.alloc (.cells #[.int .i64 (V:Int),.slice (some ⟨G,0,none⟩) n c] 25)).alloc (.cells #[.int .i64 0,.slice none 0 0] 25)) lab lab base (fun _=>True):=((SpL.box _).trans (SpL.box _)).weak (fun _ _=>⟨trivial,trivial⟩)
  refine ⟨hF.out.sp k 0 (fun _ _ _ _ _=>trivial) (Or.inl (fun _ _=>trivial)),(hdr.out.box _).box _,hbb,rfl,rfl,rfl,k.size,fun b hb _=>(Below.heap_alloc _ _ _ (by simp;omega)).trans (Below.heap_alloc _ _ _ (by omega)),hfr.out,hbs,(Bx.new _ _ _).box _,?_⟩
  have:=Bx.new (w.alloc (.cells #[.int .i64 (V:Int),.slice (some ⟨G,0,none⟩) n c] 25)) #[.int .i64 0,.slice none 0 0] 25
  rwa [World.size_alloc] at this)
 clear hF hdr
 go_enter Tryd.func30,Tryd.ntmps30
 go_wp2_with fail
 generalize (w.alloc (.cells #[.int .i64 (V:Int),.slice (some ⟨G,0,none⟩) n c] 25)).alloc (.cells #[.int .i64 0,.slice none 0 0] 25)=w0 at *
 refine (next_a sb B s 16 w0 (hide HS0.out.dr) (by omega) (by omega)).mono ?_
 rintro e w1 ⟨rfl,hd,hg⟩
 have hl1:=fun h=>next_lt s (n:=16) h
 have HS1:=hide (HS0.out.call hg hd)
 obtain ⟨rk,s1,hrs⟩:∃r s9,nextP s 16=(r,s9):=⟨_,_,rfl⟩
 rw [hrs] at HS1 HP hl1 ⊢
 dsimp only at HS1 HP hl1 ⊢
 rw [hrs] at hkr
 dsimp only at hkr
 have hlk:=hkr.out
 clear hd hg hrs HS0 hl1
 have x1:w1.cell? ⟨w.heap.size,1,none⟩=some (.slice (some ⟨G,0,none⟩) n c):=Bx.cell HS1.out.box rfl
 go_wp2_with fail
 refine (next_a sb B s1 (n:Int) w1 (hide HS1.out.dr) (by omega) (by omega)).mono ?_
 rintro e w2 ⟨rfl,hd,hg⟩
 have hl2:=fun h=>next_lt s1 (n:=(n:Int)) h
 have HS2:=hide (HS1.out.call hg hd)
 obtain ⟨rb,s2,hrs⟩:∃r s9,nextP s1 (n:Int)=(r,s9):=⟨_,_,rfl⟩
 rw [hrs] at HS2 HP hl2 ⊢
 dsimp only at HS2 HP hl2 ⊢
 have hlb:=hl2 (by omega)
 obtain ⟨b,rfl⟩:=nat_of hlb.1
 rw [Int.toNat_natCast] at HP
 clear hd hg hrs HS1 x1 hl2
 have hb:b<xs.length:=by have:=hn.out;omega
 have hbn:b<n:=by omega
 have hxb:xs.getD b dBlk=xs[b]:=by simp [hb]
 rw [hxb] at HP
 clear hxb
 have HSMB:=hide (hsm.out _ (List.getElem_mem hb))
 have HAG:=hide (harg.out _ (List.getElem_mem hb))
 have x1:w2.cell? ⟨w.heap.size,1,none⟩=some (.slice (some ⟨G,0,none⟩) n c):=Bx.cell HS2.out.box rfl
 obtain ⟨p0,p1,⟨t0,t1,t2,t3⟩⟩:=HS2.out.fn.cells hb
 obtain ⟨pa,pc,hpv⟩:=(HS2.out.fn.phis b hb).form
 obtain ⟨np,hnp⟩:∃np,np=xs[b].phis.length:=⟨_,rfl⟩
 rw [←hnp] at hpv
 obtain ⟨ia,ic,hiv⟩:=(HS2.out.fn.ins b hb).form
 obtain ⟨ni,hni⟩:∃ni,ni=xs[b].instrs.length:=⟨_,rfl⟩
 rw [←hni] at hiv
 rw [hpv] at p0
 rw [hiv] at p1
 have HNP:=hide hnp
 have HNI:=hide hni
 have hni2:ni≤1000:=by have:=HSMB.out;omega
 have hnp2:np≤1000:=by have:=HSMB.out;omega
 clear hnp hni
 have HSX:=hide (HS2.out.hand hb)
 rw [hpv,hiv] at HSX
 have HRW:Hid (∀j (hj:j<xs[b].phis.length),RowL (w2.alloc (.cells #[.slice pa np pc,.slice ia ni ic,.int .i64 xs[b].term.kind,.int .i64 xs[b].term.a,.int .i64 xs[b].term.to,.int .i64 xs[b].term.els] 41)) lab (4,b,j) base 2 1 (av b j) xs[b].phis[j].args.length (intsV xs[b].phis[j].args)):=hide (fun j hj=>(HS2.out.fn.args b hb j hj).sp (SpL.box _) (fun _ _=>trivial))
 have HXL:Hid (w.heap.size+2≤w2.heap.size):=hide HS2.out.res.lt
 have HPV:=hide hpv
 have HIV:=hide hiv
 clear hpv hiv
 go_upto_if 26 with fail
 have HXB:Hid (Bx (w2.alloc (.cells #[.slice pa np pc,.slice ia ni ic,.int .i64 xs[b].term.kind,.int .i64 xs[b].term.a,.int .i64 xs[b].term.to,.int .i64 xs[b].term.els] 41)) w2.heap.size #[.slice pa np pc,.slice ia ni ic,.int .i64 xs[b].term.kind,.int .i64 xs[b].term.a,.int .i64 xs[b].term.to,.int .i64 xs[b].term.els] 41):=hide (Bx.new _ _ _)
 clear HS2 x1 p0 p1 t0 t1 t2 t3
 generalize w2.alloc (.cells #[.slice pa np pc,.slice ia ni ic,.int .i64 xs[b].term.kind,.int .i64 xs[b].term.a,.int .i64 xs[b].term.to,.int .i64 xs[b].term.els] 41)=wx at *
 generalize w2.heap.size=xb at *
 have q0:wx.cell? ⟨xb,0,none⟩=some (.slice pa np pc):=Bx.cell HXB.out rfl
 have q1:wx.cell? ⟨xb,1,none⟩=some (.slice ia ni ic):=Bx.cell HXB.out rfl
 have q2:wx.cell? ⟨xb,2,none⟩=some (.int .i64 xs[b].term.kind):=Bx.cell HXB.out rfl
 have q3:wx.cell? ⟨xb,3,none⟩=some (.int .i64 xs[b].term.a):=Bx.cell HXB.out rfl
 have q4:wx.cell? ⟨xb,4,none⟩=some (.int .i64 xs[b].term.to):=Bx.cell HXB.out rfl
 have q5:wx.cell? ⟨xb,5,none⟩=some (.int .i64 xs[b].term.els):=Bx.cell HXB.out rfl
 have qz:=Bx.thaw HXB.out
 have f0:wx.cell? ⟨w.heap.size,0,none⟩=some (.int .i64 (V:Int)):=Bx.cell HSX.out.box rfl
 have f1:wx.cell? ⟨w.heap.size,1,none⟩=some (.slice (some ⟨G,0,none⟩) n c):=Bx.cell HSX.out.box rfl
 have fz:=Bx.thaw HSX.out.box
 have HSBX:Hid (sb≠xb):=hide (by have:=HSX.out.lt;have:=HSX.out.xlt;have:=HSX.out.bs;omega)
 clear HXB
 have hk16:rk=10:=by omega
 clear hlk hkr
 rcases hk16 with rfl
 ·skip
  have e0:((10:Int)==0)=false:=by decide
  have e1:((10:Int)==1)=false:=by decide
  have e2:((10:Int)==2)=false:=by decide
  have e3:((10:Int)==3)=false:=by decide
  have e4:((10:Int)==4)=false:=by decide
  have e5:((10:Int)==5)=false:=by decide
  have e6:((10:Int)==6)=false:=by decide
  have e7:((10:Int)==7)=false:=by decide
  have e8:((10:Int)==8)=false:=by decide
  have e9:((10:Int)==9)=false:=by decide
  have e10:((10:Int)==10)=true:=by decide
  have e11:((10:Int)==11)=false:=by decide
  have e12:((10:Int)==12)=false:=by decide
  have e13:((10:Int)==13)=false:=by decide
  have e14:((10:Int)==14)=false:=by decide
  have e15:((10:Int)==15)=false:=by decide
  by_cases hnp:0<np
  ·have hnpI:(0:Int)<np:=by omega
   have hnx:0<xs[b].phis.length:=by rw [←HNP.out];exact hnp
   have HPK:Hid (spoilP V xs s=⟨(V:Int),xs.set b ⟨xs[b].phis.set 0 ⟨xs[b].phis[0].dst,(xs[b].phis[0].args.drop 1)⟩,xs[b].instrs,xs[b].term⟩⟩):=hide (by rw [HP.out,if_neg (by decide)];simp [spoilB,spoilA,hnx])
   clear HP
   obtain ⟨gp,cp,e⟩:=(HSX.out.yph).got hnx
   rw [←HNP.out] at e
   injection e with e1 _ e3
   subst e1 e3
   have hna0':=HAG.out _ (List.getElem_mem hnx)
   have hna1:=HSMB.out.2.1 _ (List.getElem_mem hnx)
   obtain ⟨ga,ac,hav⟩:=(HRW.out 0 hnx).got hna0'
   obtain ⟨na,hna⟩:∃na,na=xs[b].phis[0].args.length:=⟨_,rfl⟩
   have hr0:=HRW.out 0 hnx
   rw [hav,←hna] at hr0
   rw [←hna] at hav
   have HNA:=hide hna
   have hna0:0<na:=by omega
   have hnab:na≤1000:=by omega
   rw [hna] at hr0
   have HR0:Hid (RowL wx lab (4,b,0) base 2 1 (.slice (some ⟨ga,0,none⟩) na ac) xs[b].phis[0].args.length (intsV xs[b].phis[0].args)):=hide (by rw [hna];exact hr0)
   have HAV:=hide hav
   clear hr0 hna hav HRW
   have c1:=(HSX.out.pcells hnx rfl).1
   rw [HAV.out] at c1
   clear q2 q3 q4 q5
   go_upto_if 79 with fail
   go_cut [] from 10 to 180 (fun wz=>∃labz sz ayz,Hid (SpF w wz labz base sb B sz (V:Int) G n c xs pv iv av b xb (.slice (some ⟨gp,0,none⟩) np pc) ⟨xs[b].phis.set 0 ⟨xs[b].phis[0].dst,(xs[b].phis[0].args.drop 1)⟩,xs[b].instrs,xs[b].term⟩ ayz))
   case first =>
    obtain ⟨c1g,zg,hxg,hbg⟩:=HSX.out.pcells hnx rfl
    rw [HAV.out] at c1g
    have hnaI:(1:Int)≤na:=by omega
    have hcap:na≤ac:=by
     obtain ⟨g,cc,e,_,hc⟩:=own_some' HR0.out.own hna0'
     injection e with _ _ e3
     rw [e3,HNA.out]
     exact hc
    have HIL:Hid (IntsL wx.drew lab (4,b,0) base (.slice (if ac=1 then some ⟨ga,0,none⟩ else some ⟨ga,1,none⟩) (na-1) (ac-1)) (xs[b].phis[0].args.drop 1)):=hide (by
     refine ⟨_,_,by rw [List.length_drop,←HNA.out],fun i hi=>?_⟩
     rw [List.length_drop,←HNA.out] at hi
     rw [if_neg (by omega)]
     have hr:=HR0.out
     rw [←HNA.out] at hr
     refine ⟨ga,1,rfl,hr.blk.1,hr.blk.2,?_⟩
     have hr2:wx.cell? ⟨ga,1+i,none⟩=some (.int .i64 (xs[b].phis[0].args[1+i]'(by rw [←HNA.out];omega))):=hr.cell (by unfold intsV;rw [List.getElem?_map,List.getElem?_eq_getElem (by rw [←HNA.out];omega)];rfl)
     rw [List.getElem_drop]
     exact hr2)
    by_cases hac:ac=1
    ·rw [if_pos hac,show ac-1=0 by omega] at HIL
     go_wp2_with fail
     refine wp_region_held_drew (S:=(fun w'=>w'.cell? ⟨xb,0,none⟩=some (.slice (some ⟨gp,0,none⟩) np pc))) (by kernel_rfl) (by (try dsimp only);go_keep) (fun hHeld=>?_)
     refine tkH 0 rfl (v:=?_) ?_
     simp only [Act.put,xA,xB,xD,xE,xF]
     refine tkH 1 rfl (v:=?_) ?_
     simp only [Act.put,xA,xB,xC,xD,xE,xF]
     refine tkH 2 rfl (v:=?_) ?_
     simp only [Act.put,xA,xB,xC,xD,xE,xF]
     refine tkH 3 rfl (v:=?_) ?_
     simp only [Act.put,xA,xB,xC,xD,xE,xF]
     refine tkH 4 rfl (v:=?_) ?_
     simp only [Act.put,xA,xB,xC,xD,xE,xF]
     refine tkH 5 rfl (v:=?_) ?_
     simp only [Act.put,xA,xB,xC,xD,xE,xF]
     refine wpAnyH_ready (rs:=[6]) (by kernel_rfl) (by simp) ?_
     refine AllReadyH.cons rfl (fun K hK=>?_) AllReadyH.nil
     go_simp
     refine hK.out _ _ (by first | with_reducible exact hHeld | ((try dsimp only);go_keep)) (fun hHeld=>?_)
     clear hK
     try simp only [Act.put,xA,xB,xC,xD,xE,xF]
     refine tkH 7 rfl (v:=?_) ?_
     simp only [Act.put,xA,xB,xC,xD,xE,xF]
     refine tkH 8 rfl (v:=?_) ?_
     simp only [Act.put,xA,xB,xC,xD,xE,xF]
     refine tkH 9 rfl (v:=?_) ?_
     simp only [Act.put,xA,xB,xC,xD,xE,xF]
     refine wpAnyH_ready (rs:=[10]) (by kernel_rfl) (by simp) ?_
     refine AllReadyH.cons rfl (fun K hK=>?_) AllReadyH.nil
     go_simp
     refine hK.out _ _ ((cell_of (Below.heap_setCell _ _ _ _ hxg)).trans q0) (fun hHeld=>?_)
     clear hK
     try simp only [Act.put,xA,xB,xC,xD,xE,xF]
     refine wpAnyH_done (by kernel_rfl) ?_ _
     clear hHeld
     go_wp2_with fail
     go_meet
     exact ⟨_,_,_,hide (HSX.out.drew.setPh (j:=0) rfl hnx HIL.out)⟩
    ·rw [if_neg hac] at HIL
     go_wp2_with fail
     refine wp_region_held_drew (S:=(fun w'=>w'.cell? ⟨xb,0,none⟩=some (.slice (some ⟨gp,0,none⟩) np pc))) (by kernel_rfl) (by (try dsimp only);go_keep) (fun hHeld=>?_)
     refine tkH 0 rfl (v:=?_) ?_
     simp only [Act.put,xA,xB,xD,xE,xF]
     refine tkH 1 rfl (v:=?_) ?_
     simp only [Act.put,xA,xB,xC,xD,xE,xF]
     refine tkH 2 rfl (v:=?_) ?_
     simp only [Act.put,xA,xB,xC,xD,xE,xF]
     refine tkH 3 rfl (v:=?_) ?_
     simp only [Act.put,xA,xB,xC,xD,xE,xF]
     refine tkH 4 rfl (v:=?_) ?_
     simp only [Act.put,xA,xB,xC,xD,xE,xF]
     refine tkH 5 rfl (v:=?_) ?_
     simp only [Act.put,xA,xB,xC,xD,xE,xF]
     refine wpAnyH_ready (rs:=[6]) (by kernel_rfl) (by simp) ?_
     refine AllReadyH.cons rfl (fun K hK=>?_) AllReadyH.nil
     go_simp
     refine hK.out _ _ (by first | with_reducible exact hHeld | ((try dsimp only);go_keep)) (fun hHeld=>?_)
     clear hK
     try simp only [Act.put,xA,xB,xC,xD,xE,xF]
     refine tkH 7 rfl (v:=?_) ?_
     simp only [Act.put,xA,xB,xC,xD,xE,xF]
     refine tkH 8 rfl (v:=?_) ?_
     simp only [Act.put,xA,xB,xC,xD,xE,xF]
     refine tkH 9 rfl (v:=?_) ?_
     simp only [Act.put,xA,xB,xC,xD,xE,xF]
     refine wpAnyH_ready (rs:=[10]) (by kernel_rfl) (by simp) ?_
     refine AllReadyH.cons rfl (fun K hK=>?_) AllReadyH.nil
     go_simp
     refine hK.out _ _ ((cell_of (Below.heap_setCell _ _ _ _ hxg)).trans q0) (fun hHeld=>?_)
     clear hK
     try simp only [Act.put,xA,xB,xC,xD,xE,xF]
     refine wpAnyH_done (by kernel_rfl) ?_ _
     clear hHeld
     go_wp2_with fail
     go_meet
     exact ⟨_,_,_,hide (HSX.out.drew.setPh (j:=0) rfl hnx HIL.out)⟩
   case rest =>
    obtain ⟨labz,sz,ayz,HSY⟩:=hcut
    clear HSX HR0 q0 q1 qz f0 f1 fz c1
    generalize wc=wy at *
    obtain ⟨labq,sq,vq,yq,ayq,hq,hyq⟩:∃labq sq vq yq ayq,SpF w wy labq base sb B sq vq G n c xs pv iv av b xb (.slice (some ⟨gp,0,none⟩) np pc) yq ayq∧spoilP V xs s=⟨vq,xs.set b yq⟩:=⟨_,_,_,_,_,HSY.out,HPK.out⟩
    have HQ:=hide hq
    have HPQ:=hide hyq
    clear hq hyq HPK HSY
    generalize wy=wq at *
    have z1:wq.cell? ⟨xb,1,none⟩=some (.slice ia ni ic):=by rw [←HIV.out];exact Bx.cell HQ.out.xbx rfl
    go_upto_if 121 with fail
    go_cut [] from 10 to 180 (fun wz=>∃sz,Hid (SpF w wz labq base sb B sz vq G n c xs pv iv av b xb (.slice (some ⟨gp,0,none⟩) np pc) yq ayq))
    case first =>
     by_cases hni:0<ni
     ·have hniI:(0:Int)<ni:=by omega
      go_wp2_with fail
      refine (next_a sb B sq (ni:Int) wq (hide HQ.out.dr) (by omega) (by omega)).mono ?_
      rintro e w5 ⟨rfl,hd,hg⟩
      have HQ5:=hide (HQ.out.call hg hd)
      clear hd hg
      go_wp2_with fail
      go_meet
      exact ⟨_,HQ5⟩
     ·have hniI:¬(0:Int)<ni:=by omega
      go_wp2_with fail
      go_meet
      exact ⟨_,HQ⟩
    case rest =>
     obtain ⟨sz,HZ⟩:=hcut
     clear HQ z1
     generalize wc=wz at *
     generalize labq=labz at *
     have fx1:wz.cell? ⟨w.heap.size,1,none⟩=some (.slice (some ⟨G,0,none⟩) n c):=Bx.cell HZ.out.box rfl
     have c0:wz.cell? ⟨xb,0,none⟩=some (.slice (some ⟨gp,0,none⟩) np pc):=Bx.cell HZ.out.xbx rfl
     have c1:wz.cell? ⟨xb,1,none⟩=some (.slice ia ni ic):=by rw [←HIV.out];exact Bx.cell HZ.out.xbx rfl
     have c2:wz.cell? ⟨xb,2,none⟩=some (.int .i64 yq.term.kind):=Bx.cell HZ.out.xbx rfl
     have c3:wz.cell? ⟨xb,3,none⟩=some (.int .i64 yq.term.a):=Bx.cell HZ.out.xbx rfl
     have c4:wz.cell? ⟨xb,4,none⟩=some (.int .i64 yq.term.to):=Bx.cell HZ.out.xbx rfl
     have c5:wz.cell? ⟨xb,5,none⟩=some (.int .i64 yq.term.els):=Bx.cell HZ.out.xbx rfl
     obtain ⟨⟨v0,g0⟩,⟨v1,g1⟩,⟨v2,g2⟩,⟨v3,g3⟩,⟨v4,g4⟩,⟨v5,g5⟩,gz⟩:=HZ.out.gcells hb
     have hne:G≠xb:=HZ.out.gxb
     have hDN:=fun u0 u1=>HZ.out.done (u0:=u0) (u1:=u1) hb
     rw [HIV.out] at hDN
     have HDN:=hide hDN
     have HBR:Hid (Bx ((((((wz.setCell ⟨G,b*6,none⟩ (.slice (some ⟨gp,0,none⟩) np pc)).setCell ⟨G,b*6+1,none⟩ (.slice ia ni ic)).setCell ⟨G,b*6+2,none⟩ (.int .i64 yq.term.kind)).setCell ⟨G,b*6+3,none⟩ (.int .i64 yq.term.a)).setCell ⟨G,b*6+4,none⟩ (.int .i64 yq.term.to)).setCell ⟨G,b*6+5,none⟩ (.int .i64 yq.term.els)) w.heap.size #[.int .i64 vq,.slice (some ⟨G,0,none⟩) n c] 25∧Bx ((((((wz.setCell ⟨G,b*6,none⟩ (.slice (some ⟨gp,0,none⟩) np pc)).setCell ⟨G,b*6+1,none⟩ (.slice ia ni ic)).setCell ⟨G,b*6+2,none⟩ (.int .i64 yq.term.kind)).setCell ⟨G,b*6+3,none⟩ (.int .i64 yq.term.a)).setCell ⟨G,b*6+4,none⟩ (.int .i64 yq.term.to)).setCell ⟨G,b*6+5,none⟩ (.int .i64 yq.term.els)) (w.heap.size+1) #[.int .i64 0,.slice none 0 0] 25):=hide ⟨(((((HZ.out.box.other HZ.out.gbox).other HZ.out.gbox).other HZ.out.gbox).other HZ.out.gbox).other HZ.out.gbox).other HZ.out.gbox,(((((HZ.out.res.other HZ.out.gres).other HZ.out.gres).other HZ.out.gres).other HZ.out.gres).other HZ.out.gres).other HZ.out.gres⟩
     clear hDN
     go_upto_region 42 with fail
     have r0:=fun q u hq=>Bx.cell (q:=q) (u:=u) HBR.out.1 hq
     have f0:=r0 0 (.int .i64 vq) rfl
     have f1:=r0 1 (.slice (some ⟨G,0,none⟩) n c) rfl
     have r2:=fun q u hq=>Bx.cell (q:=q) (u:=u) HBR.out.2 hq
     have r3:=r2 0 (.int .i64 0) rfl
     have r4:=r2 1 (.slice none 0 0) rfl
     have rz:=Bx.thaw HBR.out.2
     clear fx1 r0 r2 g0 g1 g2 g3 g4 g5 gz c0 c1 c2 c3 c4 c5
     generalize (((((wz.setCell ⟨G,b*6,none⟩ (.slice (some ⟨gp,0,none⟩) np pc)).setCell ⟨G,b*6+1,none⟩ (.slice ia ni ic)).setCell ⟨G,b*6+2,none⟩ (.int .i64 yq.term.kind)).setCell ⟨G,b*6+3,none⟩ (.int .i64 yq.term.a)).setCell ⟨G,b*6+4,none⟩ (.int .i64 yq.term.to)).setCell ⟨G,b*6+5,none⟩ (.int .i64 yq.term.els)=w6 at *
     go_wp2
     rw [HPQ.out]
     exact bodyPost_ret (v:=.agg #[.int .i64 vq,.slice (some ⟨G,0,none⟩) n c]) (by simp [results,Tryd.results30,go_sem,r3,r4]) rfl ⟨_,n,c,rfl,by rw [List.length_set];exact hn.out,HDN.out _ _⟩
  ·have hnpI:¬(0:Int)<np:=by omega
   have hnx:¬0<xs[b].phis.length:=by rw [←HNP.out];exact hnp
   have HPK:Hid (spoilP V xs s=⟨(V:Int),xs.set b xs[b]⟩):=hide (by rw [HP.out,if_neg (by decide)];simp [spoilB,hnx])
   clear HP HRW q2 q3 q4 q5
   go_upto_if 121 with fail
   clear q0 q1 qz f0 f1 fz
   obtain ⟨labq,sq,vq,yq,ayq,hq,hyq⟩:∃labq sq vq yq ayq,SpF w wx labq base sb B sq vq G n c xs pv iv av b xb (.slice pa np pc) yq ayq∧spoilP V xs s=⟨vq,xs.set b yq⟩:=⟨_,_,_,_,_,HSX.out,HPK.out⟩
   have HQ:=hide hq
   have HPQ:=hide hyq
   clear hq hyq HPK HSX
   generalize wx=wq at *
   have z1:wq.cell? ⟨xb,1,none⟩=some (.slice ia ni ic):=by rw [←HIV.out];exact Bx.cell HQ.out.xbx rfl
   go_upto_if 121 with fail
   go_cut [] from 10 to 180 (fun wz=>∃sz,Hid (SpF w wz labq base sb B sz vq G n c xs pv iv av b xb (.slice pa np pc) yq ayq))
   case first =>
    by_cases hni:0<ni
    ·have hniI:(0:Int)<ni:=by omega
     go_wp2_with fail
     refine (next_a sb B sq (ni:Int) wq (hide HQ.out.dr) (by omega) (by omega)).mono ?_
     rintro e w5 ⟨rfl,hd,hg⟩
     have HQ5:=hide (HQ.out.call hg hd)
     clear hd hg
     go_wp2_with fail
     go_meet
     exact ⟨_,HQ5⟩
    ·have hniI:¬(0:Int)<ni:=by omega
     go_wp2_with fail
     go_meet
     exact ⟨_,HQ⟩
   case rest =>
    obtain ⟨sz,HZ⟩:=hcut
    clear HQ z1
    generalize wc=wz at *
    generalize labq=labz at *
    have fx1:wz.cell? ⟨w.heap.size,1,none⟩=some (.slice (some ⟨G,0,none⟩) n c):=Bx.cell HZ.out.box rfl
    have c0:wz.cell? ⟨xb,0,none⟩=some (.slice pa np pc):=Bx.cell HZ.out.xbx rfl
    have c1:wz.cell? ⟨xb,1,none⟩=some (.slice ia ni ic):=by rw [←HIV.out];exact Bx.cell HZ.out.xbx rfl
    have c2:wz.cell? ⟨xb,2,none⟩=some (.int .i64 yq.term.kind):=Bx.cell HZ.out.xbx rfl
    have c3:wz.cell? ⟨xb,3,none⟩=some (.int .i64 yq.term.a):=Bx.cell HZ.out.xbx rfl
    have c4:wz.cell? ⟨xb,4,none⟩=some (.int .i64 yq.term.to):=Bx.cell HZ.out.xbx rfl
    have c5:wz.cell? ⟨xb,5,none⟩=some (.int .i64 yq.term.els):=Bx.cell HZ.out.xbx rfl
    obtain ⟨⟨v0,g0⟩,⟨v1,g1⟩,⟨v2,g2⟩,⟨v3,g3⟩,⟨v4,g4⟩,⟨v5,g5⟩,gz⟩:=HZ.out.gcells hb
    have hne:G≠xb:=HZ.out.gxb
    have hDN:=fun u0 u1=>HZ.out.done (u0:=u0) (u1:=u1) hb
    rw [HIV.out] at hDN
    have HDN:=hide hDN
    have HBR:Hid (Bx ((((((wz.setCell ⟨G,b*6,none⟩ (.slice pa np pc)).setCell ⟨G,b*6+1,none⟩ (.slice ia ni ic)).setCell ⟨G,b*6+2,none⟩ (.int .i64 yq.term.kind)).setCell ⟨G,b*6+3,none⟩ (.int .i64 yq.term.a)).setCell ⟨G,b*6+4,none⟩ (.int .i64 yq.term.to)).setCell ⟨G,b*6+5,none⟩ (.int .i64 yq.term.els)) w.heap.size #[.int .i64 vq,.slice (some ⟨G,0,none⟩) n c] 25∧Bx ((((((wz.setCell ⟨G,b*6,none⟩ (.slice pa np pc)).setCell ⟨G,b*6+1,none⟩ (.slice ia ni ic)).setCell ⟨G,b*6+2,none⟩ (.int .i64 yq.term.kind)).setCell ⟨G,b*6+3,none⟩ (.int .i64 yq.term.a)).setCell ⟨G,b*6+4,none⟩ (.int .i64 yq.term.to)).setCell ⟨G,b*6+5,none⟩ (.int .i64 yq.term.els)) (w.heap.size+1) #[.int .i64 0,.slice none 0 0] 25):=hide ⟨(((((HZ.out.box.other HZ.out.gbox).other HZ.out.gbox).other HZ.out.gbox).other HZ.out.gbox).other HZ.out.gbox).other HZ.out.gbox,(((((HZ.out.res.other HZ.out.gres).other HZ.out.gres).other HZ.out.gres).other HZ.out.gres).other HZ.out.gres).other HZ.out.gres⟩
    clear hDN
    go_upto_region 42 with fail
    have r0:=fun q u hq=>Bx.cell (q:=q) (u:=u) HBR.out.1 hq
    have f0:=r0 0 (.int .i64 vq) rfl
    have f1:=r0 1 (.slice (some ⟨G,0,none⟩) n c) rfl
    have r2:=fun q u hq=>Bx.cell (q:=q) (u:=u) HBR.out.2 hq
    have r3:=r2 0 (.int .i64 0) rfl
    have r4:=r2 1 (.slice none 0 0) rfl
    have rz:=Bx.thaw HBR.out.2
    clear fx1 r0 r2 g0 g1 g2 g3 g4 g5 gz c0 c1 c2 c3 c4 c5
    generalize (((((wz.setCell ⟨G,b*6,none⟩ (.slice pa np pc)).setCell ⟨G,b*6+1,none⟩ (.slice ia ni ic)).setCell ⟨G,b*6+2,none⟩ (.int .i64 yq.term.kind)).setCell ⟨G,b*6+3,none⟩ (.int .i64 yq.term.a)).setCell ⟨G,b*6+4,none⟩ (.int .i64 yq.term.to)).setCell ⟨G,b*6+5,none⟩ (.int .i64 yq.term.els)=w6 at *
    go_wp2
    rw [HPQ.out]
    exact bodyPost_ret (v:=.agg #[.int .i64 vq,.slice (some ⟨G,0,none⟩) n c]) (by simp [results,Tryd.results30,go_sem,r3,r4]) rfl ⟨_,n,c,rfl,by rw [List.length_set];exact hn.out,HDN.out _ _⟩
end Go.Proofs.YtdfdmjcngkfciaaDoor
