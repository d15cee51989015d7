import Derived.Test.YtdfdmjcngkfciaaDoorTN1
import Derived.Test.YtdfdmjcngkfciaaDoorW7
namespace Go.Proofs.YtdfdmjcngkfciaaDoor
open Go.RowKit
set_option maxHeartbeats 4000000 in
set_option maxRecDepth 100000 in
theorem tn3z {Q:Exit→Act→World→Prop} (w1:World) (n gb G gc pc b:Nat) (wa na pa:Option Addr) (wl wcap nl ncap:Nat) (c0 c1 c2 c5 c6:Value) (hg1:w1.cell? ⟨gb,1,none⟩=some (.slice (some ⟨G,0,none⟩) n gc)) (hgb:gb<w1.heap.size) (hg2:w1.cell? ⟨G,b*6,none⟩=some (.slice pa 0 pc)) (hG:G<w1.heap.size) (hbn:b<n) (_hn:n≤11) (vp c12 c13 c14:Value) (lab0:Nat→Nat × Nat × Nat) (av0:Nat→Value) (tl:List Value) (wr:World)
  (hexit:∀(c11:Value) (tl:List Value) (w':World),tl.length=134→PhS w1 w' lab0 b vp [] av0→Q (.exit 4) ⟨(c0::c1::c2::.int .i64 ((n:Nat):Int)::.pointer (some ⟨gb,0,none⟩)::c5::c6::.int .i64 ((b:Nat):Int)::.slice wa wl wcap::.slice na nl ncap::vp::c11::c12::c13::c14::tl).toArray,[]⟩ w')
  (hl:tl.length=134) (h:Hid (PhS w1 wr lab0 b vp [] av0)) :
  Code.wp Tryd.prog (Code.loop tB3) Q ⟨(c0::c1::c2::.int .i64 ((n:Nat):Int)::.pointer (some ⟨gb,0,none⟩)::c5::c6::.int .i64 ((b:Nat):Int)::.slice wa wl wcap::.slice na nl ncap::vp::.int .i64 ((0:Nat):Int)::c12::c13::c14::tl).toArray,[]⟩ wr:=by
 have HX:=hide hexit
 clear hexit
 refine wp_loop (fun a' wr=>a'=⟨(c0::c1::c2::.int .i64 ((n:Nat):Int)::.pointer (some ⟨gb,0,none⟩)::c5::c6::.int .i64 ((b:Nat):Int)::.slice wa wl wcap::.slice na nl ncap::vp::.int .i64 ((0:Nat):Int)::c12::c13::c14::tl).toArray,[]⟩∧Hid (PhS w1 wr lab0 b vp [] av0)) (fun _ _=>0) ⟨rfl,h⟩ ?_
 clear h
 rintro a' wr ⟨rfl,HS⟩
 conv=>arg 2;whnf
 obtain ⟨f,rfl⟩:=spr15 tl hl
 clear hl
 have x1:=(HS.out.low.cell (p:=⟨gb,1,none⟩) hgb).trans hg1
 have x2:=(HS.out.low.cell (p:=⟨G,b*6,none⟩) hG).trans hg2
 go_wp2_with fail
 exact HX.out _ _ _ (by rfl) HS.out
structure T2 where
 b:Nat
 g:List Blk
 lab:Nat→Nat × Nat × Nat
 pv:Nat→Value
 iv:Nat→Value
 av:Nat→Nat→Value
 c8:Value
 c9:Value
 c10:Value
 c11:Value
 c12:Value
 c13:Value
 c14:Value
 tl:List Value
set_option maxHeartbeats 4000000 in
set_option maxRecDepth 100000 in
theorem tn2 {Q:Exit→Act→World→Prop} (w:World) (v G n c G' c':Nat) (lab0:Nat→Nat × Nat × Nat) (base:Nat) (xs:List Blk) (c0 c5 c6:Value) (hQ:Hid (∀c (a:Act) t v w,Q (.panic c) (a.put (some t) v) w→Q (.panic c) a w)) (hF:Hid (BlksAt w base w.heap.size (some ⟨G,0,none⟩) xs)) (hn:Hid (n=xs.length)) (hn2:n≤11) (ha:Hid (ArgOk xs)) (hsm:Hid (SmlB xs))
  (hexit:∀(c8 c9 c10 c11 c12 c13 c14:Value) (lab:Nat→Nat × Nat × Nat) (pv iv:Nat→Value) (av:Nat→Nat→Value) (tl:List Value) (w':World),tl.length=134→T2S w w' lab0 lab base v G n c G' c' (turnP xs) pv iv av→Q (.exit 2) ⟨(c0::.pointer (some ⟨w.heap.size,0,none⟩)::.pointer (some ⟨(w.heap.size+1),0,none⟩)::.int .i64 ((n:Nat):Int)::.pointer (some ⟨(w.heap.size+2),0,none⟩)::c5::c6::.int .i64 ((n:Nat):Int)::c8::c9::c10::c11::c12::c13::c14::tl).toArray,[]⟩ w')
  (c8 c9 c10 c11 c12 c13 c14:Value) (lab:Nat→Nat × Nat × Nat) (pv iv:Nat→Value) (av:Nat→Nat→Value) (tl:List Value) (wr:World) (hl:tl.length=134) (h:Hid (T2S w wr lab0 lab base v G n c G' c' (turn1 xs) pv iv av)) :
  Code.wp Tryd.prog (Code.loop tB2) Q ⟨(c0::.pointer (some ⟨w.heap.size,0,none⟩)::.pointer (some ⟨(w.heap.size+1),0,none⟩)::.int .i64 ((n:Nat):Int)::.pointer (some ⟨(w.heap.size+2),0,none⟩)::c5::c6::.int .i64 ((0:Nat):Int)::c8::c9::c10::c11::c12::c13::c14::tl).toArray,[]⟩ wr:=by
 have HX:=hide hexit
 clear hexit
 refine wp_loop (fun a' wr=>∃x:T2,a'=⟨(c0::.pointer (some ⟨w.heap.size,0,none⟩)::.pointer (some ⟨(w.heap.size+1),0,none⟩)::.int .i64 ((n:Nat):Int)::.pointer (some ⟨(w.heap.size+2),0,none⟩)::c5::c6::.int .i64 ((x.b:Nat):Int)::x.c8::x.c9::x.c10::x.c11::x.c12::x.c13::x.c14::x.tl).toArray,[]⟩∧x.tl.length=134∧x.b≤n∧Hid (turn2 xs (n-x.b) x.b x.g=turnP xs)∧Hid (x.g.length=n)∧Hid (∀j (h:j<x.g.length) (h':othN j n<xs.length),x.b≤j→x.g[j].phis=xs[othN j n].phis)∧Hid (T2S w wr lab0 x.lab base v G n c G' c' x.g x.pv x.iv x.av)) (fun a' _=>n-(intOf (a'.tmps.getD 7 undef)).toNat) ⟨⟨0,turn1 xs,lab,pv,iv,av,c8,c9,c10,c11,c12,c13,c14,tl⟩,rfl,hl,Nat.zero_le _,hide (by rw [hn.out];rfl),hide (by rw [turn1_len];exact hn.out.symm),hide (fun j hj hj' _=>by have e:=hn.out;subst e;rw [turn1_at hj hj']),h⟩ ?_
 clear h hl
 rintro a' wr ⟨⟨b,g,lab,pv,iv,av,c8,c9,c10,c11,c12,c13,c14,tl⟩,rfl,hl,hb,HE,HGL,HPH,HS⟩
 dsimp only at hl hb HE HGL HPH HS ⊢
 conv=>arg 2;whnf
 obtain ⟨f,rfl⟩:=spr15 tl hl
 clear hl
 by_cases hlt:b<n
 ·have hltI:(b:Int)<n:=by omega
  have HOZ:Hid (othZ (b:Int) n=((othN b n:Nat):Int)):=hide (othZ_nat hlt)
  have HOL:Hid (othN b n<n):=hide (oth_lt hlt)
  have x0:wr.cell? ⟨w.heap.size,0,none⟩=some (.int .i64 (v:Int)):=Bx.cell HS.out.box rfl
  have x1:wr.cell? ⟨w.heap.size,1,none⟩=some (.slice (some ⟨G,0,none⟩) n c):=Bx.cell HS.out.box rfl
  have HBF:Hid (BlksAt wr.drew base w.heap.size (some ⟨G,0,none⟩) xs):=hide (hF.out.keep HS.out.low.drew)
  have HSD:Hid (T2S w wr.drew lab0 lab base v G n c G' c' g pv iv av):=hide HS.out.drew
  have hws:w.heap.size≤wr.heap.size:=HS.out.low.size
  have HBS:Hid (w.heap.size<wr.heap.size):=hide HS.out.box.lt
  obtain ⟨was,hwas⟩:∃was,was=predsFrom xs 0 ((othN b n:Nat):Int):=⟨_,rfl⟩
  have HWAS:=hide hwas
  have hwl11:was.length≤11:=by rw [hwas];have:=preds_le xs 0 ((othN b n:Nat):Int);have:=hn.out;omega
  clear hwas
  go_upto_region 15 with fail
  go_cut [8] from 15 to 148 (fun c8 wz=>∃wa wcap,c8=.slice wa was.length wcap∧Hid (Below wr.heap.size wr wz∧IntsAt wz 0 wz.heap.size wa was))
  case first =>
   refine wp_region_held_drew (S:=(fun w'=>w'.cell? ⟨w.heap.size,0,none⟩=some (.int .i64 (v:Int))∧w'.cell? ⟨w.heap.size,1,none⟩=some (.slice (some ⟨G,0,none⟩) n c))) (by kernel_rfl) (by (try dsimp only);go_keep) (fun hHeld=>?_)
   refine tkQ 1 rfl (v:=?_) (fun _ _ _ h=>hQ.out _ _ _ _ _ h) ?_
   simp only [Act.put,xA,xB,xC,xD,xE,xF]
   refine tkQ 2 rfl (v:=?_) (fun _ _ _ h=>hQ.out _ _ _ _ _ h) ?_
   simp only [Act.put,xA,xB,xC,xD,xE,xF]
   refine wpAnyH_ready (rs:=[0,3]) (by kernel_rfl) (by simp) ?_
   refine (AllReadyH.cons rfl (fun K hK=>?_) (AllReadyH.cons rfl (fun K hK=>?_) AllReadyH.nil))
   focus
    go_simp
    refine hK.out _ _ (by first | with_reducible exact hHeld | ((try dsimp only);go_keep)) (fun hHeld=>?_)
    clear hK
    try simp only [Act.put,xA,xB,xC,xD,xE,xF]
    refine wpAnyH_ready (rs:=[3]) (by kernel_rfl) (by simp) ?_
    refine AllReadyH.cons rfl (fun K hK=>?_) AllReadyH.nil
    go_simp
    go_at_call 61
    refine (other_any (b:Int) n _ (by omega) (by omega) (by omega)).mono ?_
    rintro e w1 ⟨rfl,hw1⟩
    subst hw1
    rw [HOZ.out]
    refine hK.out _ _ hHeld (fun hHeld=>?_)
    clear hK
    try simp only [Act.put,xA,xB,xC,xD,xE,xF]
   rotate_left
   focus
    go_simp
    go_at_call 61
    refine (other_any (b:Int) n _ (by omega) (by omega) (by omega)).mono ?_
    rintro e w1 ⟨rfl,hw1⟩
    subst hw1
    rw [HOZ.out]
    refine hK.out _ _ hHeld (fun hHeld=>?_)
    clear hK
    try simp only [Act.put,xA,xB,xC,xD,xE,xF]
    refine wpAnyH_ready (rs:=[0]) (by kernel_rfl) (by simp) ?_
    refine AllReadyH.cons rfl (fun K hK=>?_) AllReadyH.nil
    go_simp
    refine hK.out _ _ (by first | with_reducible exact hHeld | ((try dsimp only);go_keep)) (fun hHeld=>?_)
    clear hK
    try simp only [Act.put,xA,xB,xC,xD,xE,xF]
   all_goals (
    refine wpAnyH_ready (rs:=[4]) (by kernel_rfl) (by simp) ?_
    refine AllReadyH.cons rfl (fun K hK=>?_) AllReadyH.nil
    go_simp
    refine (l1Preds_any (v:Int) (some ⟨G,0,none⟩) n c ((othN b n:Nat):Int) xs base w.heap.size wr.drew HBF hn (by omega) hws).mono ?_
    rw [←HWAS.out]
    rintro e w2 ⟨wa,wcap,rfl,hb2,hi2⟩
    have HR2:Hid (Below wr.heap.size wr w2∧IntsAt w2 0 w2.heap.size wa was):=hide ⟨((Below.refl _ _).drew).trans hb2,hi2.mono (Nat.zero_le _) (Nat.le_refl _)⟩
    have KK:∀q o,q≤w.heap.size→w2.cell? ⟨q,o,none⟩=wr.cell? ⟨q,o,none⟩:=fun q o hq=>HR2.out.1.cell (p:=⟨q,o,none⟩) (by have:=HBS.out;show q<wr.heap.size;omega)
    refine hK.out _ _ ⟨(KK _ _ (Nat.le_refl _)).trans x0,(KK _ _ (Nat.le_refl _)).trans x1⟩ (fun hHeld=>?_)
    clear hK KK
    try simp only [Act.put,xA,xB,xC,xD,xE,xF]
    refine tkQ 5 rfl (v:=?_) (fun _ _ _ h=>hQ.out _ _ _ _ _ h) ?_
    simp only [Act.put,xA,xB,xC,xD,xE,xF]
    refine wpAnyH_done (by kernel_rfl) ?_ _
    clear hHeld hb2 hi2
    go_wp2_with fail
    go_meet
    exact ⟨_,_,rfl,HR2⟩)
  case rest =>
   obtain ⟨wa,wcap,rfl,HW1⟩:=hcut
   have HS1:=hide (HS.out.keep HW1.out.1)
   have HWI:=hide HW1.out.2
   clear x0 x1 HBF HSD HS HW1
   generalize wc=w1 at *
   clear hws
   have hws:w.heap.size≤w1.heap.size:=HS1.out.low.size
   have y0:w1.cell? ⟨w.heap.size+2,0,none⟩=some (.int .i64 (v:Int)):=Bx.cell HS1.out.gbx rfl
   have y1:w1.cell? ⟨w.heap.size+2,1,none⟩=some (.slice (some ⟨G',0,none⟩) n c'):=Bx.cell HS1.out.gbx rfl
   obtain ⟨now,hnow⟩:∃now,now=predsFrom g 0 (b:Int):=⟨_,rfl⟩
   have HNOW:=hide hnow
   have hnl11:now.length≤11:=by rw [hnow];have:=preds_le g 0 (b:Int);have:=HGL.out;omega
   clear hnow
   have HNZ:Hid (∀z∈now,0≤z∧z≤1000):=hide (by
    intro z hz
    rw [HNOW.out] at hz
    obtain ⟨i,hi,e,_⟩:=(mem_preds _ _ _ _).1 hz
    have:=HGL.out
    omega)
   go_wp2_with fail
   refine (l1Preds_any (v:Int) (some ⟨G',0,none⟩) n c' (b:Int) g base w1.heap.size w1 (hide HS1.out.fn.at_) (hide HGL.out.symm) (by omega) (Nat.le_refl _)).mono ?_
   rw [←HNOW.out]
   rintro e w2 ⟨na,ncap,rfl,hb2,hi2⟩
   have HS2:=hide (HS1.out.keep hb2)
   have HWI2:Hid (IntsAt w2 0 w2.heap.size wa was):=hide ((HWI.out.keep hb2).mono (Nat.zero_le _) hb2.size)
   have HNI2:Hid (IntsAt w2 0 w2.heap.size na now):=hide (hi2.mono (Nat.zero_le _) (Nat.le_refl _))
   clear hb2 hi2 HS1 HWI y0 y1
   go_wp2_with fail
   have hgl:b<g.length:=by rw [HGL.out];exact hlt
   have HP0:Hid (PhS w2 (w2.alloc (.cells #[] 72)) (fun q=>if q=w2.heap.size then (2,b,0) else (0,0,0)) b (.slice (some ⟨w2.heap.size,0,none⟩) 0 0) [] (fun _=>undef)):=hide (PhS.start w2 b)
   have hox:othN b n<xs.length:=by rw [←hn.out];exact HOL.out
   have HPE:=hide (HPH.out b hgl hox (Nat.le_refl _))
   have y1:w2.cell? ⟨w.heap.size+2,1,none⟩=some (.slice (some ⟨G',0,none⟩) n c'):=Bx.cell HS2.out.gbx rfl
   have hgbl:=HS2.out.gbx.lt
   have hGl:=(HS2.out.fn.blks.own.lt G' rfl).2
   obtain ⟨p0,-,-⟩:=HS2.out.fn.cells hgl
   obtain ⟨pa,pc,hpv⟩:=(HS2.out.fn.phis b hgl).form
   have HPV:=hide hpv
   rw [hpv] at p0
   have HNXT:Hid (∀lab3 vp av3 W,PhS w2 W lab3 b vp (turnPh n was now g[b].phis) av3→W.frozen? ⟨G',b*6,none⟩=false∧∃g2 lab2 pv2 av2,turn2 xs (n-(b+1)) (b+1) g2=turnP xs∧g2.length=n∧(∀j (h:j<g2.length) (h':othN j n<xs.length),b+1≤j→g2[j].phis=xs[othN j n].phis)∧T2S w (W.setCell ⟨G',b*6,none⟩ vp) lab0 lab2 base v G n c G' c' g2 pv2 iv av2):=hide (fun lab3 vp av3 W hW=>by
    obtain ⟨hz,lab2,ht⟩:=HS2.out.step hgl (Below.refl _ _) hW
    refine ⟨hz,_,lab2,_,_,?_,?_,?_,ht⟩
    ·have h0:=HE.out
     rw [show n-b=(n-(b+1))+1 by omega,turn2,show g.getD b dBlk=g[b] by simp [hgl],←hn.out,←HNOW.out,←HWAS.out] at h0
     exact h0
    ·rw [List.length_set];exact HGL.out
    ·intro j hj hj' hjb
     rw [List.getElem_set_ne (by omega)]
     exact HPH.out j (by simpa using hj) hj' (by omega))
   have HNX2:Hid (∀vp W,(∃lab3 av3,PhS w2 W lab3 b vp (turnPh n was now g[b].phis) av3)→∃pa2 pl2 pc2,vp=.slice pa2 pl2 pc2):=hide (fun vp W h=>by
    obtain ⟨l,a,h⟩:=h
    obtain ⟨a,c,e⟩:=h.row.form
    exact ⟨a,_,c,e⟩)
   have HLOW:=hide (fun W (hW:Below w2.heap.size w2 W)=>(hW.cell (p:=⟨w.heap.size+2,1,none⟩) hgbl).trans y1)
   have HLW2:=hide (fun W (hW:Below w2.heap.size w2 W)=>(hW.cell (p:=⟨G',b*6,none⟩) hGl).trans p0)
   by_cases hnp:g[b].phis.length=0
   ·have hge:g[b].phis=[]:=List.eq_nil_of_length_eq_zero hnp
    rw [hnp] at p0
    refine tn3z w2 n (w.heap.size+2) G' c' pc b wa na pa was.length wcap now.length ncap _ _ _ _ _ y1 hgbl p0 hGl hlt hn2 _ _ _ _ _ _ _ _ ?_ (by rfl) HP0
    intro c11 tl w' hl hP
    have HZE:Hid (turnPh n was now g[b].phis=[]):=hide (by rw [hge];rfl)
    rw [←HZE.out] at hP
    clear HZE
    obtain ⟨f,rfl⟩:=spr15 tl hl
    clear hl
    have z1:=HLOW.out _ hP.low
    have z2:=HLW2.out _ hP.low
    obtain ⟨hz,g2,lab2,pv2,av2,e1,e2,e3,ht⟩:=HNXT.out _ _ _ _ hP
    have HT:=hide ht
    have HE1:=hide e1
    have HE2:=hide e2
    have HE3:=hide e3
    clear ht e1 e2 e3 hP y1 p0 HP0
    go_wp2_with fail
    exact ⟨⟨⟨b+1,g2,lab2,pv2,iv,av2,_,_,_,_,_,_,_,_⟩,rfl,rfl,(by show b+1≤n;omega),HE1,HE2,HE3,HT⟩,by simp [intOf];omega⟩
   ·obtain ⟨gp,c2,hpg⟩:=(HS2.out.fn.phis b hgl).got (by omega)
    rw [hpv] at hpg
    injection hpg with e1 _ e3
    subst e1 e3
    have hgpl:=(HS2.out.fn.phis b hgl).own.lt gp (by rw [hpv];rfl)
    have HPS:Hid (∀j (h:j<g[b].phis.length),w2.cell? ⟨gp,j*2,none⟩=some (.int .i64 g[b].phis[j].dst)∧∃aa ac,w2.cell? ⟨gp,j*2+1,none⟩=some (.slice aa g[b].phis[j].args.length ac)∧IntsAt w2 0 w2.heap.size aa g[b].phis[j].args∧was.length≤g[b].phis[j].args.length):=hide (fun j hj=>by
     have h1:=HS2.out.fn.phiCells hgl hj hpv
     have h2:=HS2.out.fn.args b hgl j hj
     obtain ⟨aa,ac,e⟩:=h2.form
     rw [e] at h1 h2
     refine ⟨h1.1,aa,ac,h1.2,(h2.ints).mono (Nat.zero_le _) (Nat.le_refl _),?_⟩
     have h3:g[b].phis[j]∈xs[othN b n].phis:=by rw [←HPE.out];exact List.getElem_mem hj
     rw [ha.out _ hox _ h3,←HWAS.out]
     exact Nat.le_refl _)
    have hnp2:g[b].phis.length≤1000:=by rw [HPE.out];exact (hsm.out _ (List.getElem_mem hox)).1
    refine tn3 w2 0 w2.heap.size n (w.heap.size+2) G' c' gp g[b].phis.length pc b wa na was.length wcap now.length ncap was now g[b].phis _ _ _ _ _ (by exact hide (fun c a t v w h=>hQ.out c a t v w h)) HWI2 (hide rfl) HNI2 (hide rfl) (Nat.le_refl _) y1 hgbl p0 hGl hgpl.2 (hide rfl) HPS hlt hn2 HNZ ⟨hnl11,hwl11⟩ hnp2 ?_ _ _ _ _ _ _ _ _ (by rfl) HP0
    intro vp c11 c12 c13 c14 lab3 av3 tl w' hl hP
    obtain ⟨f,rfl⟩:=spr15 tl hl
    clear hl
    obtain ⟨pa2,pl2,pc2,rfl⟩:=HNX2.out _ _ ⟨_,_,hP⟩
    have z1:=HLOW.out _ hP.low
    have z2:=HLW2.out _ hP.low
    obtain ⟨hz,g2,lab2,pv2,av2,e1,e2,e3,ht⟩:=HNXT.out _ _ _ _ hP
    have HT:=hide ht
    have HE1:=hide e1
    have HE2:=hide e2
    have HE3:=hide e3
    clear ht e1 e2 e3 hP y1 p0 HP0
    go_wp2_with fail
    exact ⟨⟨⟨b+1,g2,lab2,pv2,iv,av2,_,_,_,_,_,_,_,_⟩,⟨(by show (b:Int)+1=((b+1:Nat):Int);omega),rfl,rfl,rfl,rfl,rfl,rfl,rfl,rfl⟩,rfl,(by show b+1≤n;omega),HE1,HE2,HE3,HT⟩,by simp [intOf];omega⟩
 ·have hltI:¬(b:Int)<n:=by omega
  have hbe:b=n:=by omega
  have HE2:Hid (g=turnP xs):=hide (by
   have:=HE.out
   rw [hbe,Nat.sub_self] at this
   exact this)
  subst hbe
  have HS2:=hide HS.out
  rw [HE2.out] at HS2
  clear HS HE HPH
  go_wp2_with fail
  exact HX.out _ _ _ _ _ _ _ _ _ _ _ _ _ (by rfl) HS2.out
set_option maxHeartbeats 4000000 in
set_option maxRecDepth 100000 in
theorem turn_any:TurnC:=by
 intro v G n c xs lab base pv iv av w hF hn hbs hfr ha hsm htg hn1 hn2
 have HB0:Hid (T1S w (((w.alloc (.cells #[.int .i64 (v:Int),.slice (some ⟨G,0,none⟩) n c] 25)).alloc (.cells #[.int .i64 0,.slice none 0 0] 25)).alloc (.cells #[.int .i64 (v:Int),.slice none 0 0] 25)) v G n c pv iv xs (.slice none 0 0) 0):=hide (by
  refine ⟨balloc (balloc (balloc (Below.refl _ _) _) _) _,((Bx.new _ _ _).box _).box _,?_,?_,World.ownsRow_nil _ _ _ _⟩
  ·have:=(Bx.new (w.alloc (.cells #[.int .i64 (v:Int),.slice (some ⟨G,0,none⟩) n c] 25)) #[.int .i64 0,.slice none 0 0] 25).box (.cells #[.int .i64 (v:Int),.slice none 0 0] 25)
   rwa [World.size_alloc] at this
  ·have:=Bx.new ((w.alloc (.cells #[.int .i64 (v:Int),.slice (some ⟨G,0,none⟩) n c] 25)).alloc (.cells #[.int .i64 0,.slice none 0 0] 25)) #[.int .i64 (v:Int),.slice none 0 0] 25
   rwa [World.size_alloc,World.size_alloc] at this)
 go_enter Tryd.func49,Tryd.ntmps49
 go_wp2_with fail
 refine tn1 w v G n c lab base xs pv iv av _ _ _ _ _ _ _ _ _ (by exact hide (fun c a t v w h=>h)) hF hn hn2 htg ?_ _ _ _ _ (by rfl) HB0
 intro vg c6 tl w1 hl h1
 obtain ⟨f,rfl⟩:=spr15 tl hl
 clear hl HB0
 obtain ⟨G',c',lab',rfl,h2⟩:=h1.turn hF.out hn.out hbs hn1
 have HS:=hide h2
 clear h1 h2
 go_wp2_with fail
 refine tn2 w v G n c G' c' lab base xs _ _ _ (by exact hide (fun c a t v w h=>h)) (hide hF.out.at_) hn hn2 ha hsm ?_ _ _ _ _ _ _ _ _ _ _ _ _ _ (by rfl) HS
 intro c8 c9 c10 c11 c12 c13 c14 lab2 pv2 iv2 av2 tl w2 hl h2
 obtain ⟨f,rfl⟩:=spr15 tl hl
 clear hl HS
 have HT:=hide h2
 clear h2
 have f0:w2.cell? ⟨w.heap.size+2,0,none⟩=some (.int .i64 (v:Int)):=Bx.cell HT.out.gbx rfl
 have f1:w2.cell? ⟨w.heap.size+2,1,none⟩=some (.slice (some ⟨G',0,none⟩) n c'):=Bx.cell HT.out.gbx rfl
 have r0:w2.cell? ⟨w.heap.size+1,0,none⟩=some (.int .i64 0):=Bx.cell HT.out.res rfl
 have r1:w2.cell? ⟨w.heap.size+1,1,none⟩=some (.slice none 0 0):=Bx.cell HT.out.res rfl
 have rz:=Bx.thaw HT.out.res
 go_wp2
 have hbx:∀q,(lab2 q).1≠0→q≠w.heap.size+1:=fun q h0 e=>h0 (by rw [e,HT.out.bxl _ (by omega) (by omega)])
 have k1:SpL w2 ((w2.setCell ⟨w.heap.size+1,0,none⟩ (.int .i64 (v:Int))).setCell ⟨w.heap.size+1,1,none⟩ (.slice (some ⟨G',0,none⟩) n c')) lab2 lab2 base (fun b=>b≠w.heap.size+1):=((SpL.put _ _ _).trans (SpL.put _ _ _)).weak (fun _ hb=>⟨hb,hb⟩)
 refine bodyPost_ret (v:=.agg #[.int .i64 (v:Int),.slice (some ⟨G',0,none⟩) n c']) (by simp [results,Tryd.results49,go_sem,r0,r1]) rfl ⟨lab2,G',c',pv2,iv2,av2,rfl,?_,?_,?_,?_⟩
 ·exact (HT.out.low.setCell (by show w.heap.size≤w.heap.size+1;omega) _).setCell (by show w.heap.size≤w.heap.size+1;omega) _
 ·exact HT.out.fn.sp k1 0 (fun b h1 _ _ _=>hbx b h1) (Or.inl (fun b e=>hbx b (by rcases e with e | e<;>rw [e]<;>simp)))
 ·intro b hb
  exact HT.out.fr b (by simpa [World.setCell] using hb)
 ·exact HT.out.old
end Go.Proofs.YtdfdmjcngkfciaaDoor
