import Derived.Test.YtdfdmjcngkfciaaDoorTN4
import Derived.Test.YtdfdmjcngkfciaaDoorDRb
namespace Go.Proofs.YtdfdmjcngkfciaaDoor
open Go.RowKit
set_option maxHeartbeats 8000000 in
set_option maxRecDepth 100000 in
theorem spoil_e (V G n c:Nat) (xs:List Blk) (lab:Nat→Nat × Nat × Nat) (base:Nat) (pv iv:Nat→Value) (av:Nat→Nat→Value) (sb B:Nat) (s:Sr) (w:World) (hF:Hid (FnL w lab base (.slice (some ⟨G,0,none⟩) n c) xs pv iv av)) (hn:Hid (n=xs.length)) (h1:1≤n) (hn2:n≤11) (hbs:base≤w.heap.size) (hfr:Hid (∀b,w.heap.size≤b→lab b=(0,0,0))) (hdr:Hid (DrA w sb B s)) (hbb:B≤base) (_hV:V≤1000) (hsm:Hid (SmlB xs)) (harg:Hid (PhA xs)) (hkr:Hid (4≤(nextP s 16).1∧(nextP s 16).1≤7)) :
  Calls Tryd.prog 30 #[.agg #[.int .i64 (V:Int),.slice (some ⟨G,0,none⟩) n c],.pointer (some ⟨sb,0,none⟩)] w fun e w'=>SpE (spoilP V xs s) w base sb e w':=by
 have HP:Hid (spoilP V xs s=if (nextP s 16).1=7 then ⟨V,[]⟩ else ⟨if (nextP s 16).1=0 then (V:Int)+(nextP (nextP (nextP s 16).2 (n:Int)).2 2).1*2-1 else V,xs.set (nextP (nextP s 16).2 (n:Int)).1.toNat (spoilB (nextP s 16).1 V n (nextP (nextP s 16).2 (n:Int)).2 (xs.getD (nextP (nextP s 16).2 (n:Int)).1.toNat dBlk))⟩):=hide (by rw [hn.out];rfl)
 have HS0:Hid (LsS w ((w.alloc (.cells #[.int .i64 (V:Int),.slice (some ⟨G,0,none⟩) n c] 25)).alloc (.cells #[.int .i64 0,.slice none 0 0] 25)) lab base sb B s V G n c xs pv iv av):=hide (by
  have k:SpL w ((w.alloc (.cells #[.int .i64 (V:Int),.slice (some ⟨G,0,none⟩) n c] 25)).alloc (.cells #[.int .i64 0,.slice none 0 0] 25)) lab lab base (fun _=>True):=((SpL.box _).trans (SpL.box _)).weak (fun _ _=>⟨trivial,trivial⟩)
  refine ⟨hF.out.sp k 0 (fun _ _ _ _ _=>trivial) (Or.inl (fun _ _=>trivial)),(hdr.out.box _).box _,hbb,rfl,rfl,rfl,k.size,fun b hb _=>(Below.heap_alloc _ _ _ (by simp;omega)).trans (Below.heap_alloc _ _ _ (by omega)),hfr.out,hbs,(Bx.new _ _ _).box _,?_⟩
  have:=Bx.new (w.alloc (.cells #[.int .i64 (V:Int),.slice (some ⟨G,0,none⟩) n c] 25)) #[.int .i64 0,.slice none 0 0] 25
  rwa [World.size_alloc] at this)
 clear hF hdr
 go_enter Tryd.func30,Tryd.ntmps30
 go_wp2_with fail
 generalize (w.alloc (.cells #[.int .i64 (V:Int),.slice (some ⟨G,0,none⟩) n c] 25)).alloc (.cells #[.int .i64 0,.slice none 0 0] 25)=w0 at *
 refine (next_a sb B s 16 w0 (hide HS0.out.dr) (by omega) (by omega)).mono ?_
 rintro e w1 ⟨rfl,hd,hg⟩
 have hl1:=fun h=>next_lt s (n:=16) h
 have HS1:=hide (HS0.out.call hg hd)
 obtain ⟨rk,s1,hrs⟩:∃r s9,nextP s 16=(r,s9):=⟨_,_,rfl⟩
 rw [hrs] at HS1 HP hl1 ⊢
 dsimp only at HS1 HP hl1 ⊢
 rw [hrs] at hkr
 dsimp only at hkr
 have hlk:=hkr.out
 clear hd hg hrs HS0 hl1
 have x1:w1.cell? ⟨w.heap.size,1,none⟩=some (.slice (some ⟨G,0,none⟩) n c):=Bx.cell HS1.out.box rfl
 go_wp2_with fail
 refine (next_a sb B s1 (n:Int) w1 (hide HS1.out.dr) (by omega) (by omega)).mono ?_
 rintro e w2 ⟨rfl,hd,hg⟩
 have hl2:=fun h=>next_lt s1 (n:=(n:Int)) h
 have HS2:=hide (HS1.out.call hg hd)
 obtain ⟨rb,s2,hrs⟩:∃r s9,nextP s1 (n:Int)=(r,s9):=⟨_,_,rfl⟩
 rw [hrs] at HS2 HP hl2 ⊢
 dsimp only at HS2 HP hl2 ⊢
 have hlb:=hl2 (by omega)
 obtain ⟨b,rfl⟩:=nat_of hlb.1
 rw [Int.toNat_natCast] at HP
 clear hd hg hrs HS1 x1 hl2
 have hb:b<xs.length:=by have:=hn.out;omega
 have hbn:b<n:=by omega
 have hxb:xs.getD b dBlk=xs[b]:=by simp [hb]
 rw [hxb] at HP
 clear hxb
 have HSMB:=hide (hsm.out _ (List.getElem_mem hb))
 have HAG:=hide (harg.out _ (List.getElem_mem hb))
 have x1:w2.cell? ⟨w.heap.size,1,none⟩=some (.slice (some ⟨G,0,none⟩) n c):=Bx.cell HS2.out.box rfl
 obtain ⟨p0,p1,⟨t0,t1,t2,t3⟩⟩:=HS2.out.fn.cells hb
 obtain ⟨pa,pc,hpv⟩:=(HS2.out.fn.phis b hb).form
 obtain ⟨np,hnp⟩:∃np,np=xs[b].phis.length:=⟨_,rfl⟩
 rw [←hnp] at hpv
 obtain ⟨ia,ic,hiv⟩:=(HS2.out.fn.ins b hb).form
 obtain ⟨ni,hni⟩:∃ni,ni=xs[b].instrs.length:=⟨_,rfl⟩
 rw [←hni] at hiv
 rw [hpv] at p0
 rw [hiv] at p1
 have HNP:=hide hnp
 have HNI:=hide hni
 have hni2:ni≤1000:=by have:=HSMB.out;omega
 have hnp2:np≤1000:=by have:=HSMB.out;omega
 clear hnp hni
 have HSX:=hide (HS2.out.hand hb)
 rw [hpv,hiv] at HSX
 have HRW:Hid (∀j (hj:j<xs[b].phis.length),RowL (w2.alloc (.cells #[.slice pa np pc,.slice ia ni ic,.int .i64 xs[b].term.kind,.int .i64 xs[b].term.a,.int .i64 xs[b].term.to,.int .i64 xs[b].term.els] 41)) lab (4,b,j) base 2 1 (av b j) xs[b].phis[j].args.length (intsV xs[b].phis[j].args)):=hide (fun j hj=>(HS2.out.fn.args b hb j hj).sp (SpL.box _) (fun _ _=>trivial))
 have HXL:Hid (w.heap.size+2≤w2.heap.size):=hide HS2.out.res.lt
 have HPV:=hide hpv
 have HIV:=hide hiv
 clear hpv hiv
 go_upto_if 26 with fail
 have HXB:Hid (Bx (w2.alloc (.cells #[.slice pa np pc,.slice ia ni ic,.int .i64 xs[b].term.kind,.int .i64 xs[b].term.a,.int .i64 xs[b].term.to,.int .i64 xs[b].term.els] 41)) w2.heap.size #[.slice pa np pc,.slice ia ni ic,.int .i64 xs[b].term.kind,.int .i64 xs[b].term.a,.int .i64 xs[b].term.to,.int .i64 xs[b].term.els] 41):=hide (Bx.new _ _ _)
 clear HS2 x1 p0 p1 t0 t1 t2 t3
 generalize w2.alloc (.cells #[.slice pa np pc,.slice ia ni ic,.int .i64 xs[b].term.kind,.int .i64 xs[b].term.a,.int .i64 xs[b].term.to,.int .i64 xs[b].term.els] 41)=wx at *
 generalize w2.heap.size=xb at *
 have q0:wx.cell? ⟨xb,0,none⟩=some (.slice pa np pc):=Bx.cell HXB.out rfl
 have q1:wx.cell? ⟨xb,1,none⟩=some (.slice ia ni ic):=Bx.cell HXB.out rfl
 have q2:wx.cell? ⟨xb,2,none⟩=some (.int .i64 xs[b].term.kind):=Bx.cell HXB.out rfl
 have q3:wx.cell? ⟨xb,3,none⟩=some (.int .i64 xs[b].term.a):=Bx.cell HXB.out rfl
 have q4:wx.cell? ⟨xb,4,none⟩=some (.int .i64 xs[b].term.to):=Bx.cell HXB.out rfl
 have q5:wx.cell? ⟨xb,5,none⟩=some (.int .i64 xs[b].term.els):=Bx.cell HXB.out rfl
 have qz:=Bx.thaw HXB.out
 have f0:wx.cell? ⟨w.heap.size,0,none⟩=some (.int .i64 (V:Int)):=Bx.cell HSX.out.box rfl
 have f1:wx.cell? ⟨w.heap.size,1,none⟩=some (.slice (some ⟨G,0,none⟩) n c):=Bx.cell HSX.out.box rfl
 have fz:=Bx.thaw HSX.out.box
 have HSBX:Hid (sb≠xb):=hide (by have:=HSX.out.lt;have:=HSX.out.xlt;have:=HSX.out.bs;omega)
 clear HXB
 have hk16:rk=4∨rk=5∨rk=6∨rk=7:=by omega
 clear hlk hkr
 rcases hk16 with rfl | rfl | rfl | rfl
 ·skip
  have e0:((4:Int)==0)=false:=by decide
  have e1:((4:Int)==1)=false:=by decide
  have e2:((4:Int)==2)=false:=by decide
  have e3:((4:Int)==3)=false:=by decide
  have e4:((4:Int)==4)=true:=by decide
  have e5:((4:Int)==5)=false:=by decide
  have e6:((4:Int)==6)=false:=by decide
  have e7:((4:Int)==7)=false:=by decide
  have e8:((4:Int)==8)=false:=by decide
  have e9:((4:Int)==9)=false:=by decide
  have e10:((4:Int)==10)=false:=by decide
  have e11:((4:Int)==11)=false:=by decide
  have e12:((4:Int)==12)=false:=by decide
  have e13:((4:Int)==13)=false:=by decide
  have e14:((4:Int)==14)=false:=by decide
  have e15:((4:Int)==15)=false:=by decide
  have HPK:Hid (spoilP V xs s=⟨(V:Int),xs.set b ⟨xs[b].phis,xs[b].instrs,⟨(nextP s2 5).1,xs[b].term.a,xs[b].term.to,xs[b].term.els⟩⟩⟩):=hide (by rw [HP.out,if_neg (by decide)];simp [spoilB,spoilT])
  clear HP
  go_wp2_with fail
  refine (next_a sb B s2 5 wx (hide HSX.out.dr) (by omega) (by omega)).mono ?_
  rintro e w5 ⟨rfl,hd,hg⟩
  have HS5:=hide (HSX.out.call hg hd)
  clear hd hg HSX HRW q0 q1 q2 q3 q4 q5 qz f0 f1 fz
  have HSY:=hide (HS5.out.putT ⟨(nextP s2 5).1,xs[b].term.a,xs[b].term.to,xs[b].term.els⟩ 2 (.int .i64 (nextP s2 5).1) (by rw [HIV.out];rfl))
  have q2:w5.cell? ⟨xb,2,none⟩=some (.int .i64 xs[b].term.kind):=Bx.cell HS5.out.xbx rfl
  have q0:w5.cell? ⟨xb,0,none⟩=some (.slice pa np pc):=Bx.cell HS5.out.xbx rfl
  have qz:=Bx.thaw HS5.out.xbx
  go_upto_if 79 with fail
  generalize w5.setCell ⟨xb,2,none⟩ (.int .i64 (nextP s2 5).1)=wy at *
  clear q2 q0 qz HS5
  obtain ⟨labq,sq,vq,yq,ayq,hq,hyq⟩:∃labq sq vq yq ayq,SpF w wy labq base sb B sq vq G n c xs pv iv av b xb (.slice pa np pc) yq ayq∧spoilP V xs s=⟨vq,xs.set b yq⟩:=⟨_,_,_,_,_,HSY.out,HPK.out⟩
  have HQ:=hide hq
  have HPQ:=hide hyq
  clear hq hyq HPK HSY
  generalize wy=wq at *
  have z0:wq.cell? ⟨xb,0,none⟩=some (.slice pa np pc):=Bx.cell HQ.out.xbx rfl
  go_upto_if 79 with fail
  go_cut [] from 10 to 180 (fun wz=>Hid (SmW wz wq))
  case first =>
   by_cases hnp:0<np
   ·have hnpI:(0:Int)<np:=by omega
    go_wp2_with fail
    go_meet
    exact hide rfl
   ·have hnpI:¬(0:Int)<np:=by omega
    go_wp2_with fail
    go_meet
    exact hide rfl
  case rest =>
   have e:wc=wq:=hcut.out
   subst e
   clear hcut
   generalize wc=wq at *
   have z1:wq.cell? ⟨xb,1,none⟩=some (.slice ia ni ic):=by rw [←HIV.out];exact Bx.cell HQ.out.xbx rfl
   go_upto_if 121 with fail
   go_cut [] from 10 to 180 (fun wz=>∃sz,Hid (SpF w wz labq base sb B sz vq G n c xs pv iv av b xb (.slice pa np pc) yq ayq))
   case first =>
    by_cases hni:0<ni
    ·have hniI:(0:Int)<ni:=by omega
     go_wp2_with fail
     refine (next_a sb B sq (ni:Int) wq (hide HQ.out.dr) (by omega) (by omega)).mono ?_
     rintro e w5 ⟨rfl,hd,hg⟩
     have HQ5:=hide (HQ.out.call hg hd)
     clear hd hg
     go_wp2_with fail
     go_meet
     exact ⟨_,HQ5⟩
    ·have hniI:¬(0:Int)<ni:=by omega
     go_wp2_with fail
     go_meet
     exact ⟨_,HQ⟩
   case rest =>
    obtain ⟨sz,HZ⟩:=hcut
    clear HQ z0 z1
    generalize wc=wz at *
    generalize labq=labz at *
    have fx1:wz.cell? ⟨w.heap.size,1,none⟩=some (.slice (some ⟨G,0,none⟩) n c):=Bx.cell HZ.out.box rfl
    have c0:wz.cell? ⟨xb,0,none⟩=some (.slice pa np pc):=Bx.cell HZ.out.xbx rfl
    have c1:wz.cell? ⟨xb,1,none⟩=some (.slice ia ni ic):=by rw [←HIV.out];exact Bx.cell HZ.out.xbx rfl
    have c2:wz.cell? ⟨xb,2,none⟩=some (.int .i64 yq.term.kind):=Bx.cell HZ.out.xbx rfl
    have c3:wz.cell? ⟨xb,3,none⟩=some (.int .i64 yq.term.a):=Bx.cell HZ.out.xbx rfl
    have c4:wz.cell? ⟨xb,4,none⟩=some (.int .i64 yq.term.to):=Bx.cell HZ.out.xbx rfl
    have c5:wz.cell? ⟨xb,5,none⟩=some (.int .i64 yq.term.els):=Bx.cell HZ.out.xbx rfl
    obtain ⟨⟨v0,g0⟩,⟨v1,g1⟩,⟨v2,g2⟩,⟨v3,g3⟩,⟨v4,g4⟩,⟨v5,g5⟩,gz⟩:=HZ.out.gcells hb
    have hne:G≠xb:=HZ.out.gxb
    have hDN:=fun u0 u1=>HZ.out.done (u0:=u0) (u1:=u1) hb
    rw [HIV.out] at hDN
    have HDN:=hide hDN
    have HBR:Hid (Bx ((((((wz.setCell ⟨G,b*6,none⟩ (.slice pa np pc)).setCell ⟨G,b*6+1,none⟩ (.slice ia ni ic)).setCell ⟨G,b*6+2,none⟩ (.int .i64 yq.term.kind)).setCell ⟨G,b*6+3,none⟩ (.int .i64 yq.term.a)).setCell ⟨G,b*6+4,none⟩ (.int .i64 yq.term.to)).setCell ⟨G,b*6+5,none⟩ (.int .i64 yq.term.els)) w.heap.size #[.int .i64 vq,.slice (some ⟨G,0,none⟩) n c] 25∧Bx ((((((wz.setCell ⟨G,b*6,none⟩ (.slice pa np pc)).setCell ⟨G,b*6+1,none⟩ (.slice ia ni ic)).setCell ⟨G,b*6+2,none⟩ (.int .i64 yq.term.kind)).setCell ⟨G,b*6+3,none⟩ (.int .i64 yq.term.a)).setCell ⟨G,b*6+4,none⟩ (.int .i64 yq.term.to)).setCell ⟨G,b*6+5,none⟩ (.int .i64 yq.term.els)) (w.heap.size+1) #[.int .i64 0,.slice none 0 0] 25):=hide ⟨(((((HZ.out.box.other HZ.out.gbox).other HZ.out.gbox).other HZ.out.gbox).other HZ.out.gbox).other HZ.out.gbox).other HZ.out.gbox,(((((HZ.out.res.other HZ.out.gres).other HZ.out.gres).other HZ.out.gres).other HZ.out.gres).other HZ.out.gres).other HZ.out.gres⟩
    clear hDN
    go_upto_region 42 with fail
    have r0:=fun q u hq=>Bx.cell (q:=q) (u:=u) HBR.out.1 hq
    have f0:=r0 0 (.int .i64 vq) rfl
    have f1:=r0 1 (.slice (some ⟨G,0,none⟩) n c) rfl
    have r2:=fun q u hq=>Bx.cell (q:=q) (u:=u) HBR.out.2 hq
    have r3:=r2 0 (.int .i64 0) rfl
    have r4:=r2 1 (.slice none 0 0) rfl
    have rz:=Bx.thaw HBR.out.2
    clear fx1 r0 r2 g0 g1 g2 g3 g4 g5 gz c0 c1 c2 c3 c4 c5
    generalize (((((wz.setCell ⟨G,b*6,none⟩ (.slice pa np pc)).setCell ⟨G,b*6+1,none⟩ (.slice ia ni ic)).setCell ⟨G,b*6+2,none⟩ (.int .i64 yq.term.kind)).setCell ⟨G,b*6+3,none⟩ (.int .i64 yq.term.a)).setCell ⟨G,b*6+4,none⟩ (.int .i64 yq.term.to)).setCell ⟨G,b*6+5,none⟩ (.int .i64 yq.term.els)=w6 at *
    go_wp2
    rw [HPQ.out]
    exact bodyPost_ret (v:=.agg #[.int .i64 vq,.slice (some ⟨G,0,none⟩) n c]) (by simp [results,Tryd.results30,go_sem,r3,r4]) rfl ⟨_,n,c,rfl,by rw [List.length_set];exact hn.out,HDN.out _ _⟩
 ·skip
  have e0:((5:Int)==0)=false:=by decide
  have e1:((5:Int)==1)=false:=by decide
  have e2:((5:Int)==2)=false:=by decide
  have e3:((5:Int)==3)=false:=by decide
  have e4:((5:Int)==4)=false:=by decide
  have e5:((5:Int)==5)=true:=by decide
  have e6:((5:Int)==6)=false:=by decide
  have e7:((5:Int)==7)=false:=by decide
  have e8:((5:Int)==8)=false:=by decide
  have e9:((5:Int)==9)=false:=by decide
  have e10:((5:Int)==10)=false:=by decide
  have e11:((5:Int)==11)=false:=by decide
  have e12:((5:Int)==12)=false:=by decide
  have e13:((5:Int)==13)=false:=by decide
  have e14:((5:Int)==14)=false:=by decide
  have e15:((5:Int)==15)=false:=by decide
  have HPK:Hid (spoilP V xs s=⟨(V:Int),xs.set b ⟨xs[b].phis,xs[b].instrs,⟨xs[b].term.kind,(V:Int),xs[b].term.to,xs[b].term.els⟩⟩⟩):=hide (by rw [HP.out,if_neg (by decide)];simp [spoilB,spoilT])
  clear HP
  have HSY:=hide (HSX.out.putT ⟨xs[b].term.kind,(V:Int),xs[b].term.to,xs[b].term.els⟩ 3 (.int .i64 (V:Int)) (by rw [HIV.out];rfl))
  clear HSX HRW
  go_upto_if 79 with fail
  generalize wx.setCell ⟨xb,3,none⟩ (.int .i64 (V:Int))=wy at *
  obtain ⟨labq,sq,vq,yq,ayq,hq,hyq⟩:∃labq sq vq yq ayq,SpF w wy labq base sb B sq vq G n c xs pv iv av b xb (.slice pa np pc) yq ayq∧spoilP V xs s=⟨vq,xs.set b yq⟩:=⟨_,_,_,_,_,HSY.out,HPK.out⟩
  have HQ:=hide hq
  have HPQ:=hide hyq
  clear hq hyq HPK HSY
  generalize wy=wq at *
  clear q0 q1 q2 q3 q4 q5 qz f0 f1 fz
  have z0:wq.cell? ⟨xb,0,none⟩=some (.slice pa np pc):=Bx.cell HQ.out.xbx rfl
  go_upto_if 79 with fail
  go_cut [] from 10 to 180 (fun wz=>Hid (SmW wz wq))
  case first =>
   by_cases hnp:0<np
   ·have hnpI:(0:Int)<np:=by omega
    go_wp2_with fail
    go_meet
    exact hide rfl
   ·have hnpI:¬(0:Int)<np:=by omega
    go_wp2_with fail
    go_meet
    exact hide rfl
  case rest =>
   have e:wc=wq:=hcut.out
   subst e
   clear hcut
   generalize wc=wq at *
   have z1:wq.cell? ⟨xb,1,none⟩=some (.slice ia ni ic):=by rw [←HIV.out];exact Bx.cell HQ.out.xbx rfl
   go_upto_if 121 with fail
   go_cut [] from 10 to 180 (fun wz=>∃sz,Hid (SpF w wz labq base sb B sz vq G n c xs pv iv av b xb (.slice pa np pc) yq ayq))
   case first =>
    by_cases hni:0<ni
    ·have hniI:(0:Int)<ni:=by omega
     go_wp2_with fail
     refine (next_a sb B sq (ni:Int) wq (hide HQ.out.dr) (by omega) (by omega)).mono ?_
     rintro e w5 ⟨rfl,hd,hg⟩
     have HQ5:=hide (HQ.out.call hg hd)
     clear hd hg
     go_wp2_with fail
     go_meet
     exact ⟨_,HQ5⟩
    ·have hniI:¬(0:Int)<ni:=by omega
     go_wp2_with fail
     go_meet
     exact ⟨_,HQ⟩
   case rest =>
    obtain ⟨sz,HZ⟩:=hcut
    clear HQ z0 z1
    generalize wc=wz at *
    generalize labq=labz at *
    have fx1:wz.cell? ⟨w.heap.size,1,none⟩=some (.slice (some ⟨G,0,none⟩) n c):=Bx.cell HZ.out.box rfl
    have c0:wz.cell? ⟨xb,0,none⟩=some (.slice pa np pc):=Bx.cell HZ.out.xbx rfl
    have c1:wz.cell? ⟨xb,1,none⟩=some (.slice ia ni ic):=by rw [←HIV.out];exact Bx.cell HZ.out.xbx rfl
    have c2:wz.cell? ⟨xb,2,none⟩=some (.int .i64 yq.term.kind):=Bx.cell HZ.out.xbx rfl
    have c3:wz.cell? ⟨xb,3,none⟩=some (.int .i64 yq.term.a):=Bx.cell HZ.out.xbx rfl
    have c4:wz.cell? ⟨xb,4,none⟩=some (.int .i64 yq.term.to):=Bx.cell HZ.out.xbx rfl
    have c5:wz.cell? ⟨xb,5,none⟩=some (.int .i64 yq.term.els):=Bx.cell HZ.out.xbx rfl
    obtain ⟨⟨v0,g0⟩,⟨v1,g1⟩,⟨v2,g2⟩,⟨v3,g3⟩,⟨v4,g4⟩,⟨v5,g5⟩,gz⟩:=HZ.out.gcells hb
    have hne:G≠xb:=HZ.out.gxb
    have hDN:=fun u0 u1=>HZ.out.done (u0:=u0) (u1:=u1) hb
    rw [HIV.out] at hDN
    have HDN:=hide hDN
    have HBR:Hid (Bx ((((((wz.setCell ⟨G,b*6,none⟩ (.slice pa np pc)).setCell ⟨G,b*6+1,none⟩ (.slice ia ni ic)).setCell ⟨G,b*6+2,none⟩ (.int .i64 yq.term.kind)).setCell ⟨G,b*6+3,none⟩ (.int .i64 yq.term.a)).setCell ⟨G,b*6+4,none⟩ (.int .i64 yq.term.to)).setCell ⟨G,b*6+5,none⟩ (.int .i64 yq.term.els)) w.heap.size #[.int .i64 vq,.slice (some ⟨G,0,none⟩) n c] 25∧Bx ((((((wz.setCell ⟨G,b*6,none⟩ (.slice pa np pc)).setCell ⟨G,b*6+1,none⟩ (.slice ia ni ic)).setCell ⟨G,b*6+2,none⟩ (.int .i64 yq.term.kind)).setCell ⟨G,b*6+3,none⟩ (.int .i64 yq.term.a)).setCell ⟨G,b*6+4,none⟩ (.int .i64 yq.term.to)).setCell ⟨G,b*6+5,none⟩ (.int .i64 yq.term.els)) (w.heap.size+1) #[.int .i64 0,.slice none 0 0] 25):=hide ⟨(((((HZ.out.box.other HZ.out.gbox).other HZ.out.gbox).other HZ.out.gbox).other HZ.out.gbox).other HZ.out.gbox).other HZ.out.gbox,(((((HZ.out.res.other HZ.out.gres).other HZ.out.gres).other HZ.out.gres).other HZ.out.gres).other HZ.out.gres).other HZ.out.gres⟩
    clear hDN
    go_upto_region 42 with fail
    have r0:=fun q u hq=>Bx.cell (q:=q) (u:=u) HBR.out.1 hq
    have f0:=r0 0 (.int .i64 vq) rfl
    have f1:=r0 1 (.slice (some ⟨G,0,none⟩) n c) rfl
    have r2:=fun q u hq=>Bx.cell (q:=q) (u:=u) HBR.out.2 hq
    have r3:=r2 0 (.int .i64 0) rfl
    have r4:=r2 1 (.slice none 0 0) rfl
    have rz:=Bx.thaw HBR.out.2
    clear fx1 r0 r2 g0 g1 g2 g3 g4 g5 gz c0 c1 c2 c3 c4 c5
    generalize (((((wz.setCell ⟨G,b*6,none⟩ (.slice pa np pc)).setCell ⟨G,b*6+1,none⟩ (.slice ia ni ic)).setCell ⟨G,b*6+2,none⟩ (.int .i64 yq.term.kind)).setCell ⟨G,b*6+3,none⟩ (.int .i64 yq.term.a)).setCell ⟨G,b*6+4,none⟩ (.int .i64 yq.term.to)).setCell ⟨G,b*6+5,none⟩ (.int .i64 yq.term.els)=w6 at *
    go_wp2
    rw [HPQ.out]
    exact bodyPost_ret (v:=.agg #[.int .i64 vq,.slice (some ⟨G,0,none⟩) n c]) (by simp [results,Tryd.results30,go_sem,r3,r4]) rfl ⟨_,n,c,rfl,by rw [List.length_set];exact hn.out,HDN.out _ _⟩
 ·skip
  have e0:((6:Int)==0)=false:=by decide
  have e1:((6:Int)==1)=false:=by decide
  have e2:((6:Int)==2)=false:=by decide
  have e3:((6:Int)==3)=false:=by decide
  have e4:((6:Int)==4)=false:=by decide
  have e5:((6:Int)==5)=false:=by decide
  have e6:((6:Int)==6)=true:=by decide
  have e7:((6:Int)==7)=false:=by decide
  have e8:((6:Int)==8)=false:=by decide
  have e9:((6:Int)==9)=false:=by decide
  have e10:((6:Int)==10)=false:=by decide
  have e11:((6:Int)==11)=false:=by decide
  have e12:((6:Int)==12)=false:=by decide
  have e13:((6:Int)==13)=false:=by decide
  have e14:((6:Int)==14)=false:=by decide
  have e15:((6:Int)==15)=false:=by decide
  have HPK:Hid (spoilP V xs s=⟨(V:Int),xs.set b ⟨xs[b].phis++[⟨0,[]⟩],xs[b].instrs,xs[b].term⟩⟩):=hide (by rw [HP.out,if_neg (by decide)];simp [spoilB])
  clear HP
  obtain ⟨i0,hi0,hz0,hz1,hz2⟩:=info_three Tryd.infoPhiD
  have HOW:=hide HSX.out.yph.own
  rw [←HNP.out] at HOW
  go_wp2_with (at_builtin;refine wpList_append_own_at _ rfl _ _ 36 rfl base 72 i0 (.agg #[.int .i64 0,.slice none 0 0]) 2 32 Tryd.underlying36 hi0 hz0 hz1 hz2 rfl (by decide) (.slice pa np pc) np (phsV (av b) xs[b].phis) rfl (HOW.out.alloc _) ⟨wx.heap.size,0,none⟩ 1 1 [.int .i64 0,.slice none 0 0] rfl rfl (World.news_of_block (World.alloc_heap_new _ _)) ?c2 ?c3 ?c4 ?c5 ?_)
  case c2=>intro u hu;simp at hu;rcases hu with rfl | rfl<;>rfl
  case c3=>unfold maxLen;omega
  case c4=>omega
  case c5=>simp;have:=HSX.out.size;omega
  intro v8 w8 hown8 hg8 hne8 hat8
  obtain ⟨hx8,lab8,hs8⟩:=HSX.out.push hg8 hown8 (by rw [HNP.out]) (by rw [World.size_alloc];exact hat8)
  obtain ⟨g8,c8,rfl,hgb8,hcap⟩:=own_some' hown8 (by omega)
  clear hgb8 hcap hne8 hat8 hown8 hg8 q0 q1 q2 q3 q4 q5 qz f0 f1 fz HSX HRW HOW
  have q0:w8.cell? ⟨xb,0,none⟩=some (.slice pa np pc):=Bx.cell hx8 rfl
  have qz:=Bx.thaw hx8
  have HSY:=hide hs8
  clear hx8 hs8
  go_upto_if 79 with fail
  generalize w8.setCell ⟨xb,0,none⟩ (.slice (some ⟨g8,0,none⟩) (np+1) c8)=wy at *
  clear q0 qz
  obtain ⟨labq,sq,vq,yq,ayq,hq,hyq⟩:∃labq sq vq yq ayq,SpF w wy labq base sb B sq vq G n c xs pv iv av b xb (.slice (some ⟨g8,0,none⟩) (np+1) c8) yq ayq∧spoilP V xs s=⟨vq,xs.set b yq⟩:=⟨_,_,_,_,_,HSY.out,HPK.out⟩
  have HQ:=hide hq
  have HPQ:=hide hyq
  clear hq hyq HPK HSY
  generalize wy=wq at *
  have z0:wq.cell? ⟨xb,0,none⟩=some (.slice (some ⟨g8,0,none⟩) (np+1) c8):=Bx.cell HQ.out.xbx rfl
  have hnpI:(0:Int)<(np:Int)+1:=by omega
  have z1:wq.cell? ⟨xb,1,none⟩=some (.slice ia ni ic):=by rw [←HIV.out];exact Bx.cell HQ.out.xbx rfl
  go_upto_if 121 with fail
  go_cut [] from 10 to 180 (fun wz=>∃sz,Hid (SpF w wz labq base sb B sz vq G n c xs pv iv av b xb (.slice (some ⟨g8,0,none⟩) (np+1) c8) yq ayq))
  case first =>
   by_cases hni:0<ni
   ·have hniI:(0:Int)<ni:=by omega
    go_wp2_with fail
    refine (next_a sb B sq (ni:Int) wq (hide HQ.out.dr) (by omega) (by omega)).mono ?_
    rintro e w5 ⟨rfl,hd,hg⟩
    have HQ5:=hide (HQ.out.call hg hd)
    clear hd hg
    go_wp2_with fail
    go_meet
    exact ⟨_,HQ5⟩
   ·have hniI:¬(0:Int)<ni:=by omega
    go_wp2_with fail
    go_meet
    exact ⟨_,HQ⟩
  case rest =>
   obtain ⟨sz,HZ⟩:=hcut
   clear HQ z0 z1
   generalize wc=wz at *
   generalize labq=labz at *
   have fx1:wz.cell? ⟨w.heap.size,1,none⟩=some (.slice (some ⟨G,0,none⟩) n c):=Bx.cell HZ.out.box rfl
   have c0:wz.cell? ⟨xb,0,none⟩=some (.slice (some ⟨g8,0,none⟩) (np+1) c8):=Bx.cell HZ.out.xbx rfl
   have c1:wz.cell? ⟨xb,1,none⟩=some (.slice ia ni ic):=by rw [←HIV.out];exact Bx.cell HZ.out.xbx rfl
   have c2:wz.cell? ⟨xb,2,none⟩=some (.int .i64 yq.term.kind):=Bx.cell HZ.out.xbx rfl
   have c3:wz.cell? ⟨xb,3,none⟩=some (.int .i64 yq.term.a):=Bx.cell HZ.out.xbx rfl
   have c4:wz.cell? ⟨xb,4,none⟩=some (.int .i64 yq.term.to):=Bx.cell HZ.out.xbx rfl
   have c5:wz.cell? ⟨xb,5,none⟩=some (.int .i64 yq.term.els):=Bx.cell HZ.out.xbx rfl
   obtain ⟨⟨v0,g0⟩,⟨v1,g1⟩,⟨v2,g2⟩,⟨v3,g3⟩,⟨v4,g4⟩,⟨v5,g5⟩,gz⟩:=HZ.out.gcells hb
   have hne:G≠xb:=HZ.out.gxb
   have hDN:=fun u0 u1=>HZ.out.done (u0:=u0) (u1:=u1) hb
   rw [HIV.out] at hDN
   have HDN:=hide hDN
   have HBR:Hid (Bx ((((((wz.setCell ⟨G,b*6,none⟩ (.slice (some ⟨g8,0,none⟩) (np+1) c8)).setCell ⟨G,b*6+1,none⟩ (.slice ia ni ic)).setCell ⟨G,b*6+2,none⟩ (.int .i64 yq.term.kind)).setCell ⟨G,b*6+3,none⟩ (.int .i64 yq.term.a)).setCell ⟨G,b*6+4,none⟩ (.int .i64 yq.term.to)).setCell ⟨G,b*6+5,none⟩ (.int .i64 yq.term.els)) w.heap.size #[.int .i64 vq,.slice (some ⟨G,0,none⟩) n c] 25∧Bx ((((((wz.setCell ⟨G,b*6,none⟩ (.slice (some ⟨g8,0,none⟩) (np+1) c8)).setCell ⟨G,b*6+1,none⟩ (.slice ia ni ic)).setCell ⟨G,b*6+2,none⟩ (.int .i64 yq.term.kind)).setCell ⟨G,b*6+3,none⟩ (.int .i64 yq.term.a)).setCell ⟨G,b*6+4,none⟩ (.int .i64 yq.term.to)).setCell ⟨G,b*6+5,none⟩ (.int .i64 yq.term.els)) (w.heap.size+1) #[.int .i64 0,.slice none 0 0] 25):=hide ⟨(((((HZ.out.box.other HZ.out.gbox).other HZ.out.gbox).other HZ.out.gbox).other HZ.out.gbox).other HZ.out.gbox).other HZ.out.gbox,(((((HZ.out.res.other HZ.out.gres).other HZ.out.gres).other HZ.out.gres).other HZ.out.gres).other HZ.out.gres).other HZ.out.gres⟩
   clear hDN
   go_upto_region 42 with fail
   have r0:=fun q u hq=>Bx.cell (q:=q) (u:=u) HBR.out.1 hq
   have f0:=r0 0 (.int .i64 vq) rfl
   have f1:=r0 1 (.slice (some ⟨G,0,none⟩) n c) rfl
   have r2:=fun q u hq=>Bx.cell (q:=q) (u:=u) HBR.out.2 hq
   have r3:=r2 0 (.int .i64 0) rfl
   have r4:=r2 1 (.slice none 0 0) rfl
   have rz:=Bx.thaw HBR.out.2
   clear fx1 r0 r2 g0 g1 g2 g3 g4 g5 gz c0 c1 c2 c3 c4 c5
   generalize (((((wz.setCell ⟨G,b*6,none⟩ (.slice (some ⟨g8,0,none⟩) (np+1) c8)).setCell ⟨G,b*6+1,none⟩ (.slice ia ni ic)).setCell ⟨G,b*6+2,none⟩ (.int .i64 yq.term.kind)).setCell ⟨G,b*6+3,none⟩ (.int .i64 yq.term.a)).setCell ⟨G,b*6+4,none⟩ (.int .i64 yq.term.to)).setCell ⟨G,b*6+5,none⟩ (.int .i64 yq.term.els)=w6 at *
   go_wp2
   rw [HPQ.out]
   exact bodyPost_ret (v:=.agg #[.int .i64 vq,.slice (some ⟨G,0,none⟩) n c]) (by simp [results,Tryd.results30,go_sem,r3,r4]) rfl ⟨_,n,c,rfl,by rw [List.length_set];exact hn.out,HDN.out _ _⟩
 ·skip
  have e0:((7:Int)==0)=false:=by decide
  have e1:((7:Int)==1)=false:=by decide
  have e2:((7:Int)==2)=false:=by decide
  have e3:((7:Int)==3)=false:=by decide
  have e4:((7:Int)==4)=false:=by decide
  have e5:((7:Int)==5)=false:=by decide
  have e6:((7:Int)==6)=false:=by decide
  have e7:((7:Int)==7)=true:=by decide
  have e8:((7:Int)==8)=false:=by decide
  have e9:((7:Int)==9)=false:=by decide
  have e10:((7:Int)==10)=false:=by decide
  have e11:((7:Int)==11)=false:=by decide
  have e12:((7:Int)==12)=false:=by decide
  have e13:((7:Int)==13)=false:=by decide
  have e14:((7:Int)==14)=false:=by decide
  have e15:((7:Int)==15)=false:=by decide
  have HPK:Hid (spoilP V xs s=⟨(V:Int),[]⟩):=hide (by rw [HP.out,if_pos rfl])
  have fz2:=Bx.thaw (HSX.out.box.box (.cells #[] 41))
  have hbl:=HSX.out.box.lt
  have hsx:=HSX.out.size
  have hrl:=HSX.out.res.lt
  have HB:Hid (Bx ((wx.setCell ⟨w.heap.size,1,none⟩ (.slice (some ⟨wx.heap.size,0,none⟩) 0 0)).alloc (.cells #[] 41)) w.heap.size #[.int .i64 (V:Int),.slice (some ⟨wx.heap.size,0,none⟩) 0 0] 25∧Bx ((wx.setCell ⟨w.heap.size,1,none⟩ (.slice (some ⟨wx.heap.size,0,none⟩) 0 0)).alloc (.cells #[] 41)) (w.heap.size+1) #[.int .i64 0,.slice none 0 0] 25∧Below base wx ((wx.setCell ⟨w.heap.size,1,none⟩ (.slice (some ⟨wx.heap.size,0,none⟩) 0 0)).alloc (.cells #[] 41))):=hide ⟨by
   have:=(HSX.out.box.set 1 (.slice (some ⟨wx.heap.size,0,none⟩) 0 0)).box (.cells #[] 41)
   simpa using this,(HSX.out.res.other (by omega)).box _,Below.alloc ((Below.refl base wx).setCell (p:=⟨w.heap.size,1,none⟩) hbs _) (by simp [World.setCell];omega) _⟩
  go_upto_region 21 with fail
  clear q0 q1 q2 q3 q4 q5 qz f0 f1 fz fz2
  generalize ((wx.setCell ⟨w.heap.size,1,none⟩ (.slice (some ⟨wx.heap.size,0,none⟩) 0 0)).alloc (.cells #[] 41))=w7 at *
  have f0:w7.cell? ⟨w.heap.size,0,none⟩=some (.int .i64 (V:Int)):=Bx.cell HB.out.1 rfl
  have f1:w7.cell? ⟨w.heap.size,1,none⟩=some (.slice (some ⟨wx.heap.size,0,none⟩) 0 0):=Bx.cell HB.out.1 rfl
  have r3:w7.cell? ⟨w.heap.size+1,0,none⟩=some (.int .i64 0):=Bx.cell HB.out.2.1 rfl
  have r4:w7.cell? ⟨w.heap.size+1,1,none⟩=some (.slice none 0 0):=Bx.cell HB.out.2.1 rfl
  have rz:=Bx.thaw HB.out.2.1
  go_wp2
  rw [HPK.out]
  refine bodyPost_ret (v:=.agg #[.int .i64 (V:Int),.slice (some ⟨wx.heap.size,0,none⟩) 0 0]) (by simp [results,Tryd.results30,go_sem,r3,r4]) rfl ⟨_,0,0,rfl,rfl,?_⟩
  have hg1:base≤w.heap.size+1:=by omega
  have hB:=(HB.out.2.2.setCell (p:=⟨w.heap.size+1,0,none⟩) hg1 (.int .i64 (V:Int))).setCell (p:=⟨w.heap.size+1,1,none⟩) hg1 (.slice (some ⟨wx.heap.size,0,none⟩) 0 0)
  exact ⟨fun i hi=>absurd hi (by simp),hB.os.trans HSX.out.os,hB.tape.trans HSX.out.tape,hB.output.trans HSX.out.output,Nat.le_trans HSX.out.size hB.size,fun q h1 h2=>(hB.block q h1).trans (HSX.out.low q h1 h2)⟩
end Go.Proofs.YtdfdmjcngkfciaaDoor
