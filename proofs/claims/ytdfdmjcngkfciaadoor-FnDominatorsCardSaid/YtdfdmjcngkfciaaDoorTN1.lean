import Derived.Test.YtdfdmjcngkfciaaDoorTN4
import Derived.Test.YtdfdmjcngkfciaaDoorDT2
namespace Go.Proofs.YtdfdmjcngkfciaaDoor
open Go.RowKit
structure T1S (w wr:World) (v G n c:Nat) (pv iv:Nat→Value) (xs:List Blk) (vg:Value) (b:Nat):Prop where
 low:Below w.heap.size w wr
 box:Bx wr w.heap.size #[.int .i64 (v:Int),.slice (some ⟨G,0,none⟩) n c] 25
 res:Bx wr (w.heap.size+1) #[.int .i64 0,.slice none 0 0] 25
 gbx:Bx wr (w.heap.size+2) #[.int .i64 (v:Int),vg] 25
 own:wr.ownsRow (w.heap.size+3) 41 6 vg b (blksV (fun i=>pv (othN i n)) (fun i=>iv (othN i n)) ((turn1 xs).take b))
theorem T1S.keep {w wr w':World} {v G n c:Nat} {pv iv:Nat→Value} {xs:List Blk} {vg:Value} {b:Nat} (h:T1S w wr v G n c pv iv xs vg b) (k:Below wr.heap.size wr w'):T1S w w' v G n c pv iv xs vg b :=
 ⟨h.low.trans (k.mono h.low.size),h.box.keep (k.block _ h.box.lt),h.res.keep (k.block _ h.res.lt),h.gbx.keep (k.block _ h.gbx.lt),own_same h.own (fun q e=>k.block q (h.own.lt q e).2)⟩
theorem T1S.push {w w2 w8:World} {v G n c:Nat} {pv iv:Nat→Value} {xs:List Blk} {vg v8:Value} {b n':Nat} {o:Obj} {tt:Ter} (h:T1S w w2 v G n c pv iv xs vg b) (hg:(w2.alloc o).grownBy w8 vg.ownBlock) (ho:w8.ownsRow (w.heap.size+3) 41 6 v8 n' ((blksV (fun i=>pv (othN i n)) (fun i=>iv (othN i n)) ((turn1 xs).take b))++[pv (othN b n),iv (othN b n),.int .i64 (turnT n tt).kind,.int .i64 (turnT n tt).a,.int .i64 (turnT n tt).to,.int .i64 (turnT n tt).els])) (hn':n'=b+1) (hn:n=xs.length) (hb:b<n) (ht:tt=(xs.getD (othN b n) dBlk).term) :
  Bx w8 (w.heap.size+2) #[.int .i64 (v:Int),vg] 25∧T1S w (w8.setCell ⟨w.heap.size+2,1,none⟩ v8) v G n c pv iv xs v8 (b+1):=by
 have hz:=h.gbx.lt
 have kb:∀q,q<w.heap.size+3→w8.heap[q]?=w2.heap[q]?:=fun q hq=>(hg.block q (by simp;omega) (fun e=>by have:=(h.own.lt q e.symm).1;omega)).trans (Below.heap_alloc _ _ _ (by omega))
 have hlow:Below w.heap.size w w8:=(h.low.trans (Below.alloc (Below.refl _ _) (by omega) o)).trans (grown_below (Below.refl _ _) hg (h.own.alloc o) (by omega) (by simp;omega))
 have hgb:=h.gbx.keep (kb _ (by omega))
 refine ⟨hgb,hlow.setCell (by show w.heap.size≤w.heap.size+2;omega) _,(h.box.keep (kb _ (by omega))).other (by omega),(h.res.keep (kb _ (by omega))).other (by omega),?_,?_⟩
 ·have:=hgb.set 1 v8
  simpa using this
 ·subst hn'
  have hl:(turn1 xs).length=n:=by rw [hn];simp [turn1]
  have e:(blksV (fun i=>pv (othN i n)) (fun i=>iv (othN i n)) ((turn1 xs).take (b+1)))=(blksV (fun i=>pv (othN i n)) (fun i=>iv (othN i n)) ((turn1 xs).take b))++[pv (othN b n),iv (othN b n),.int .i64 (turnT n tt).kind,.int .i64 (turnT n tt).a,.int .i64 (turnT n tt).to,.int .i64 (turnT n tt).els]:=by
   have hbl:b<(turn1 xs).length:=by omega
   rw [List.take_succ_eq_append_getElem hbl]
   unfold blksV
   rw [flatI_app,Nat.zero_add,List.length_take,Nat.min_eq_left (by omega)]
   have e2:(turn1 xs)[b].term=turnT n tt:=by rw [ht];simp [turn1,hn]
   rw [e2]
   rfl
  rw [e]
  refine ownsRow_setCell_other ho (fun e=>?_) v8
  have:=(ho.lt _ e).1
  simp at this
structure T1 where
 b:Nat
 vg:Value
 c6:Value
 tl:List Value
set_option maxHeartbeats 4000000 in
set_option maxRecDepth 100000 in
theorem tn1 {Q:Exit→Act→World→Prop} (w:World) (v G n c:Nat) (lab:Nat→Nat × Nat × Nat) (base:Nat) (xs:List Blk) (pv iv:Nat→Value) (av:Nat→Nat→Value) (c0 c7 c8 c9 c10 c11 c12 c13 c14:Value) (hQ:Hid (∀c (a:Act) t v w,Q (.panic c) (a.put (some t) v) w→Q (.panic c) a w)) (hF:Hid (FnL w lab base (.slice (some ⟨G,0,none⟩) n c) xs pv iv av)) (hn:Hid (n=xs.length)) (hn2:n≤11) (htg:Hid (TgB xs))
  (hexit:∀(vg c6:Value) (tl:List Value) (w':World),tl.length=134→T1S w w' v G n c pv iv xs vg n→Q (.exit 0) ⟨(c0::.pointer (some ⟨w.heap.size,0,none⟩)::.pointer (some ⟨(w.heap.size+1),0,none⟩)::.int .i64 ((n:Nat):Int)::.pointer (some ⟨(w.heap.size+2),0,none⟩)::.int .i64 ((n:Nat):Int)::c6::c7::c8::c9::c10::c11::c12::c13::c14::tl).toArray,[]⟩ w')
  (vg c6:Value) (tl:List Value) (wr:World) (hl:tl.length=134) (h:Hid (T1S w wr v G n c pv iv xs vg 0)) :
  Code.wp Tryd.prog (Code.loop tB1) Q ⟨(c0::.pointer (some ⟨w.heap.size,0,none⟩)::.pointer (some ⟨(w.heap.size+1),0,none⟩)::.int .i64 ((n:Nat):Int)::.pointer (some ⟨(w.heap.size+2),0,none⟩)::.int .i64 ((0:Nat):Int)::c6::c7::c8::c9::c10::c11::c12::c13::c14::tl).toArray,[]⟩ wr:=by
 have HX:=hide hexit
 clear hexit
 obtain ⟨i0,hi0,hz0,hz1,hz2⟩:=info_three Tryd.infoBlkD
 refine wp_loop (fun a' wr=>∃x:T1,a'=⟨(c0::.pointer (some ⟨w.heap.size,0,none⟩)::.pointer (some ⟨(w.heap.size+1),0,none⟩)::.int .i64 ((n:Nat):Int)::.pointer (some ⟨(w.heap.size+2),0,none⟩)::.int .i64 ((x.b:Nat):Int)::x.c6::c7::c8::c9::c10::c11::c12::c13::c14::x.tl).toArray,[]⟩∧x.tl.length=134∧x.b≤n∧Hid (T1S w wr v G n c pv iv xs x.vg x.b)) (fun a' _=>n-(intOf (a'.tmps.getD 5 undef)).toNat) ⟨⟨0,vg,c6,tl⟩,rfl,hl,Nat.zero_le _,h⟩ ?_
 clear h hl
 rintro a' wr ⟨⟨b,vg,c6,tl⟩,rfl,hl,hb,HS⟩
 dsimp only at hl hb HS ⊢
 conv=>arg 2;whnf
 obtain ⟨f,rfl⟩:=spr15 tl hl
 clear hl
 by_cases hlt:b<n
 ·have hltI:(b:Int)<n:=by omega
  have hob:othN b n<n:=by unfold othN;split<;>omega
  have hox:othN b n<xs.length:=by rw [←hn.out];exact hob
  have hoz:othZ (b:Int) n=((othN b n:Nat):Int):=by
   unfold othZ othN
   split
   ·rename_i h
    have:b=0:=by omega
    rw [if_pos this]
    rfl
   ·rename_i h
    rw [if_neg (by omega)]
    omega
  have HOZ:=hide hoz
  clear hoz
  obtain ⟨p0,p1,t0,t1,t2,t3⟩:=hF.out.cells hox
  have hGl:=(hF.out.blks.own.lt G rfl).2
  have KC:=hide (fun W (hW:Below w.heap.size w W) o=>hW.cell (p:=⟨G,o,none⟩) hGl)
  have x1:wr.cell? ⟨w.heap.size,1,none⟩=some (.slice (some ⟨G,0,none⟩) n c):=Bx.cell HS.out.box rfl
  have y0:=(KC.out _ HS.out.low _).trans p0
  have y1:=(KC.out _ HS.out.low _).trans p1
  have y2:=(KC.out _ HS.out.low _).trans t0
  have y3:=(KC.out _ HS.out.low _).trans t1
  have y4:=(KC.out _ HS.out.low _).trans t2
  have y5:=(KC.out _ HS.out.low _).trans t3
  obtain ⟨pa,pc,hpv⟩:=(hF.out.phis _ hox).form
  obtain ⟨ia,ic,hiv⟩:=(hF.out.ins _ hox).form
  rw [hpv] at y0
  rw [hiv] at y1
  have HTT:Hid (xs[othN b n].term=(xs.getD (othN b n) dBlk).term):=hide (by simp [hox])
  have HTG:=hide (htg.out _ (List.getElem_mem hox))
  rw [←hn.out] at HTG
  have HPV:=hide hpv
  have HIV:=hide hiv
  clear hpv hiv p0 p1 t0 t1 t2 t3
  generalize xs[othN b n].phis.length=pl at *
  generalize xs[othN b n].instrs.length=il at *
  generalize xs[othN b n].term=tt at *
  have HEO:Hid (othN b n=othN b n):=hide rfl
  generalize hoe:othN b n=ob at x1 y0 y1 y2 y3 y4 y5 HOZ hob
  have HOE:=hide hoe
  clear hoe HEO
  have HLR:Hid (w.heap.size+3≤wr.heap.size):=hide HS.out.gbx.lt
  have HBX:Hid (Below wr.heap.size wr (wr.alloc (.cells #[.slice pa pl pc,.slice ia il ic,.int .i64 tt.kind,.int .i64 tt.a,.int .i64 tt.to,.int .i64 tt.els] 41)).drew∧Bx (wr.alloc (.cells #[.slice pa pl pc,.slice ia il ic,.int .i64 tt.kind,.int .i64 tt.a,.int .i64 tt.to,.int .i64 tt.els] 41)).drew wr.heap.size #[.slice pa pl pc,.slice ia il ic,.int .i64 tt.kind,.int .i64 tt.a,.int .i64 tt.to,.int .i64 tt.els] 41):=hide ⟨(balloc (Below.refl _ _) _).drew,Bx.new _ _ _⟩
  have HDC:Hid (∀q o u,q<wr.heap.size→wr.cell? ⟨q,o,none⟩=some u→(wr.alloc (.cells #[.slice pa pl pc,.slice ia il ic,.int .i64 tt.kind,.int .i64 tt.a,.int .i64 tt.to,.int .i64 tt.els] 41)).drew.cell? ⟨q,o,none⟩=some u):=hide (fun q o u hq hu=>(HBX.out.1.cell (p:=⟨q,o,none⟩) hq).trans hu)
  have HOWN:Hid (vg.ownBlock≠some wr.heap.size):=hide (fun e=>by have:=(HS.out.own.lt _ e).2;omega)
  have hGr:G<wr.heap.size:=by have:=HLR.out;omega
  have hwr:w.heap.size<wr.heap.size:=by have:=HLR.out;omega
  go_upto_region 6 with fail
  go_cut [6] from 21 to 60 (fun c6 wx=>c6=.pointer (some ⟨wr.heap.size,0,none⟩)∧Hid (Below wr.heap.size wr wx∧Bx wx wr.heap.size #[.slice pa pl pc,.slice ia il ic,.int .i64 tt.kind,.int .i64 tt.a,.int .i64 tt.to,.int .i64 tt.els] 41))
  case first =>
   refine wp_region_held_drew (S:=(fun w'=>w'.cell? ⟨w.heap.size,1,none⟩=some (.slice (some ⟨G,0,none⟩) n c)∧w'.cell? ⟨G,ob*6,none⟩=some (.slice pa pl pc)∧w'.cell? ⟨G,ob*6+1,none⟩=some (.slice ia il ic)∧w'.cell? ⟨G,ob*6+2,none⟩=some (.int .i64 tt.kind)∧w'.cell? ⟨G,ob*6+2+1,none⟩=some (.int .i64 tt.a)∧w'.cell? ⟨G,ob*6+2+2,none⟩=some (.int .i64 tt.to)∧w'.cell? ⟨G,ob*6+2+3,none⟩=some (.int .i64 tt.els))) (by kernel_rfl) (by (try dsimp only);go_keep) (fun hHeld=>?_)
   refine tkQ 0 rfl (v:=?_) (fun _ _ _ h=>hQ.out _ _ _ _ _ h) ?_
   simp only [Act.put,xA,xB,xD,xE,xF]
   refine tkQ 1 rfl (v:=?_) (fun _ _ _ h=>hQ.out _ _ _ _ _ h) ?_
   simp only [Act.put,xA,xB,xC,xD,xE,xF]
   refine tkQ 2 rfl (v:=?_) (fun _ _ _ h=>hQ.out _ _ _ _ _ h) ?_
   simp only [Act.put,xA,xB,xC,xD,xE,xF]
   refine tkQ 3 rfl (v:=?_) (fun _ _ _ h=>hQ.out _ _ _ _ _ h) ?_
   simp only [Act.put,xA,xB,xC,xD,xE,xF]
   refine wpAnyH_ready (rs:=[4,7]) (by kernel_rfl) (by simp) ?_
   refine (AllReadyH.cons rfl (fun K hK=>?_) (AllReadyH.cons rfl (fun K hK=>?_) AllReadyH.nil))
   focus
    go_simp
    go_at_call 61
    refine (other_any (b:Int) n _ (by omega) (by omega) (by omega)).mono ?_
    rintro e w1 ⟨rfl,hw1⟩
    subst hw1
    rw [HOZ.out]
    refine hK.out _ _ ⟨x1,y0,y1,y2,y3,y4,y5⟩ (fun hHeld=>?_)
    clear hK
    try simp only [Act.put,xA,xB,xC,xD,xE,xF]
    refine tkQ 5 rfl (v:=?_) (fun _ _ _ h=>hQ.out _ _ _ _ _ h) ?_
    simp only [Act.put,xA,xB,xC,xD,xE,xF]
    refine wpAnyH_ready (rs:=[6,7]) (by kernel_rfl) (by simp) ?_
    refine (AllReadyH.cons rfl (fun K hK=>?_) (AllReadyH.cons rfl (fun K hK=>?_) AllReadyH.nil))
   focus
    go_simp
    refine hK.out _ _ (by first | with_reducible exact hHeld | ((try dsimp only);go_keep)) (fun hHeld=>?_)
    clear hK
    try simp only [Act.put,xA,xB,xC,xD,xE,xF]
    refine wpAnyH_ready (rs:=[7]) (by kernel_rfl) (by simp) ?_
    refine AllReadyH.cons rfl (fun K hK=>?_) AllReadyH.nil
    go_simp
    refine hK.out _ _ (by first | with_reducible exact hHeld | ((try dsimp only);go_keep)) (fun hHeld=>?_)
    clear hK
    try simp only [Act.put,xA,xB,xC,xD,xE,xF]
   rotate_left
   focus
    go_simp
    refine hK.out _ _ (by first | with_reducible exact hHeld | ((try dsimp only);go_keep)) (fun hHeld=>?_)
    clear hK
    try simp only [Act.put,xA,xB,xC,xD,xE,xF]
    refine wpAnyH_ready (rs:=[6]) (by kernel_rfl) (by simp) ?_
    refine AllReadyH.cons rfl (fun K hK=>?_) AllReadyH.nil
    go_simp
    refine hK.out _ _ (by first | with_reducible exact hHeld | ((try dsimp only);go_keep)) (fun hHeld=>?_)
    clear hK
    try simp only [Act.put,xA,xB,xC,xD,xE,xF]
   rotate_left
   focus
    go_simp
    refine hK.out _ _ (by first | with_reducible exact hHeld | ((try dsimp only);go_keep)) (fun hHeld=>?_)
    clear hK
    try simp only [Act.put,xA,xB,xC,xD,xE,xF]
    refine wpAnyH_ready (rs:=[4]) (by kernel_rfl) (by simp) ?_
    refine AllReadyH.cons rfl (fun K hK=>?_) AllReadyH.nil
    go_simp
    go_at_call 61
    refine (other_any (b:Int) n _ (by omega) (by omega) (by omega)).mono ?_
    rintro e w1 ⟨rfl,hw1⟩
    subst hw1
    rw [HOZ.out]
    refine hK.out _ _ hHeld (fun hHeld=>?_)
    clear hK
    try simp only [Act.put,xA,xB,xC,xD,xE,xF]
    refine tkQ 5 rfl (v:=?_) (fun _ _ _ h=>hQ.out _ _ _ _ _ h) ?_
    simp only [Act.put,xA,xB,xC,xD,xE,xF]
    refine wpAnyH_ready (rs:=[6]) (by kernel_rfl) (by simp) ?_
    refine AllReadyH.cons rfl (fun K hK=>?_) AllReadyH.nil
    go_simp
    refine hK.out _ _ (by first | with_reducible exact hHeld | ((try dsimp only);go_keep)) (fun hHeld=>?_)
    clear hK
    try simp only [Act.put,xA,xB,xC,xD,xE,xF]
   all_goals (
    refine wpAnyH_ready (rs:=[8]) (by kernel_rfl) (by simp) ?_
    refine AllReadyH.cons rfl (fun K hK=>?_) AllReadyH.nil
    go_simp
    refine hK.out _ _ ⟨HDC.out _ _ _ (by omega) x1,HDC.out _ _ _ (by omega) y0,HDC.out _ _ _ (by omega) y1,HDC.out _ _ _ (by omega) y2,HDC.out _ _ _ (by omega) y3,HDC.out _ _ _ (by omega) y4,HDC.out _ _ _ (by omega) y5⟩ (fun hHeld=>?_)
    clear hK
    try simp only [Act.put,xA,xB,xC,xD,xE,xF]
    refine wpAnyH_done (by kernel_rfl) ?_ _
    clear hHeld
    go_wp2_with fail
    go_meet
    exact ⟨rfl,HBX⟩)
  case rest =>
   obtain ⟨rfl,HX1⟩:=hcut
   clear x1 y0 y1 y2 y3 y4 y5 HBX HDC
   have HSR:Hid (∀W,Below wr.heap.size wr W→T1S w W v G n c pv iv xs vg b):=hide (fun W hW=>HS.out.keep hW)
   have HS1:=hide (HS.out.keep HX1.out.1)
   have HXB:=hide HX1.out.2
   have HLW:=hide HX1.out.1
   have hlr:=HLR.out
   clear HS HX1
   generalize wc=w1 at *
   have HNB:Hid (vg.ownBlock≠some wr.heap.size):=hide HOWN.out
   generalize wr.heap.size=xb at *
   have q2:w1.cell? ⟨xb,2,none⟩=some (.int .i64 tt.kind):=Bx.cell HXB.out rfl
   have q4:w1.cell? ⟨xb,4,none⟩=some (.int .i64 tt.to):=Bx.cell HXB.out rfl
   have q5:w1.cell? ⟨xb,5,none⟩=some (.int .i64 tt.els):=Bx.cell HXB.out rfl
   have qz:=Bx.thaw HXB.out
   go_upto_if 36 with fail
   have htb:=HTG.out.2
   go_cut [] from 21 to 60 (fun wy=>Hid (Below xb wr wy∧Bx wy xb #[.slice pa pl pc,.slice ia il ic,.int .i64 tt.kind,.int .i64 tt.a,.int .i64 (turnT n tt).to,.int .i64 tt.els] 41))
   case first =>
    by_cases hk:tt.kind=3
    ·have hkb:(tt.kind != 3)=false:=by simpa using hk
     have HE:Hid ((turnT n tt).to=tt.to):=hide (by unfold turnT;dsimp only;rw [if_neg (fun h=>h hk)])
     clear hk
     go_wp2_with fail
     go_meet
     rw [HE.out]
     exact hide ⟨HLW.out,HXB.out⟩
    ·have hkb:(tt.kind != 3)=true:=by simpa using hk
     have HE:Hid ((turnT n tt).to=othZ tt.to n):=hide (by unfold turnT;dsimp only;rw [if_pos hk])
     clear hk
     go_wp2_with fail
     refine (other_any tt.to n _ (by omega) (by omega) (by omega)).mono ?_
     rintro e w2 ⟨rfl,hw2⟩
     subst hw2
     go_wp2_with fail
     go_meet
     rw [HE.out]
     refine hide ⟨HLW.out.setCell (Nat.le_refl _) _,?_⟩
     have:=HXB.out.set 4 (.int .i64 (othZ tt.to n))
     simpa using this
   case rest =>
    have HX2:=hide hcut.out
    clear HXB q2 q4 q5 qz HLW hcut HS1
    have HLW:=hide HX2.out.1
    have HXB:=hide HX2.out.2
    clear HX2
    generalize wc=w2 at *
    have q2:w2.cell? ⟨xb,2,none⟩=some (.int .i64 tt.kind):=Bx.cell HXB.out rfl
    have q4:w2.cell? ⟨xb,4,none⟩=some (.int .i64 (turnT n tt).to):=Bx.cell HXB.out rfl
    have q5:w2.cell? ⟨xb,5,none⟩=some (.int .i64 tt.els):=Bx.cell HXB.out rfl
    have qz:=Bx.thaw HXB.out
    go_upto_if 47 with fail
    go_cut [] from 21 to 60 (fun wy=>Hid (Below xb wr wy∧Bx wy xb #[.slice pa pl pc,.slice ia il ic,.int .i64 (turnT n tt).kind,.int .i64 (turnT n tt).a,.int .i64 (turnT n tt).to,.int .i64 (turnT n tt).els] 41))
    case first =>
     by_cases hk:tt.kind=2
     ·have hkb:(tt.kind==2)=true:=by simpa using hk
      have HE:Hid ((turnT n tt).els=othZ tt.els n):=hide (by unfold turnT;dsimp only;rw [if_pos hk])
      clear hk
      go_wp2_with fail
      refine (other_any tt.els n _ (by omega) (by omega) (by omega)).mono ?_
      rintro e w3 ⟨rfl,hw3⟩
      subst hw3
      go_wp2_with fail
      go_meet
      rw [HE.out]
      refine hide ⟨HLW.out.setCell (Nat.le_refl _) _,?_⟩
      have:=HXB.out.set 5 (.int .i64 (othZ tt.els n))
      simpa [turnT] using this
     ·have hkb:(tt.kind==2)=false:=by simpa using hk
      have HE:Hid ((turnT n tt).els=tt.els):=hide (by unfold turnT;dsimp only;rw [if_neg hk])
      clear hk
      go_wp2_with fail
      go_meet
      rw [HE.out]
      exact hide ⟨HLW.out,HXB.out⟩
    case rest =>
     have HX2:=hide hcut.out
     clear HXB q2 q4 q5 qz HLW hcut
     have HS3:Hid (T1S w wc v G n c pv iv xs vg b):=hide (HSR.out _ HX2.out.1)
     have HXB:=hide HX2.out.2
     clear HX2
     generalize wc=w3 at *
     generalize hTn:turnT n tt=Tn at *
     have HTN:=hide hTn
     clear hTn
     have f1:w3.cell? ⟨w.heap.size+2,1,none⟩=some vg:=Bx.cell HS3.out.gbx rfl
     have q0:w3.cell? ⟨xb,0,none⟩=some (.slice pa pl pc):=Bx.cell HXB.out rfl
     have q1:w3.cell? ⟨xb,1,none⟩=some (.slice ia il ic):=Bx.cell HXB.out rfl
     have q2:w3.cell? ⟨xb,2,none⟩=some (.int .i64 Tn.kind):=Bx.cell HXB.out rfl
     have q3:w3.cell? ⟨xb,3,none⟩=some (.int .i64 Tn.a):=Bx.cell HXB.out rfl
     have q4:w3.cell? ⟨xb,4,none⟩=some (.int .i64 Tn.to):=Bx.cell HXB.out rfl
     have q5:w3.cell? ⟨xb,5,none⟩=some (.int .i64 Tn.els):=Bx.cell HXB.out rfl
     have hgz:=HS3.out.gbx.lt
     go_wp2_with (at_builtin;refine wpList_append_own_at _ rfl _ _ 23 rfl (w.heap.size+3) 41 i0 (.agg #[.slice none 0 0,.slice none 0 0,.int .i64 0,.int .i64 0,.int .i64 0,.int .i64 0]) 6 80 Tryd.underlying23 hi0 hz0 hz1 hz2 rfl (by decide) vg b (blksV (fun i=>pv (othN i n)) (fun i=>iv (othN i n)) ((turn1 xs).take b)) rfl (HS3.out.own.alloc _) ⟨w3.heap.size,0,none⟩ 1 1 [.slice pa pl pc,.slice ia il ic,.int .i64 Tn.kind,.int .i64 Tn.a,.int .i64 Tn.to,.int .i64 Tn.els] rfl rfl (World.news_of_block (World.alloc_heap_new _ _)) ?c2 ?c3 ?c4 ?c5 ?_)
     case c2=>intro u hu;simp at hu;rcases hu with rfl | rfl | rfl | rfl | rfl | rfl<;>rfl
     case c3=>unfold maxLen;omega
     case c4=>omega
     case c5=>simp;omega
     intro v8 w8 hown8 hg8 hne8 hat8
     have HPU:Hid (Bx w8 (w.heap.size+2) #[.int .i64 (v:Int),vg] 25∧T1S w (w8.setCell ⟨w.heap.size+2,1,none⟩ v8) v G n c pv iv xs v8 (b+1)):=hide (HS3.out.push (tt:=tt) hg8 (by rw [HTN.out,HPV.out,HIV.out];exact hown8) rfl hn.out hlt HTT.out)
     obtain ⟨g8,c8',rfl,hgb8,hcap⟩:=own_some' hown8 (by omega)
     clear hgb8 hcap hne8 hat8 hown8 hg8 q0 q1 q2 q3 q4 q5 f1
     have k1:w8.cell? ⟨w.heap.size+2,1,none⟩=some vg:=Bx.cell HPU.out.1 rfl
     have kz:=Bx.thaw HPU.out.1
     have HF:=hide HPU.out.2
     clear HPU
     go_wp2_with fail
     exact ⟨⟨⟨b+1,_,_,_⟩,rfl,rfl,(by show b+1≤n;omega),HF⟩,by simp [intOf];omega⟩
 ·have hltI:¬(b:Int)<n:=by omega
  have hbe:b=n:=by omega
  subst hbe
  go_wp2_with fail
  exact HX.out _ _ _ _ (by rfl) HS.out
end Go.Proofs.YtdfdmjcngkfciaaDoor

namespace Go.Proofs.YtdfdmjcngkfciaaDoor
open Go.RowKit
def relab (n:Nat) (L:Nat × Nat × Nat):Nat × Nat × Nat:=if L.1=0 then (0,0,0) else if L.1=1 then (9,0,0) else (L.1,othN L.2.1 n,L.2.2)
structure T2S (w wr:World) (lab0 lab:Nat→Nat × Nat × Nat) (base v G n c G' c':Nat) (g:List Blk) (pv iv:Nat→Value) (av:Nat→Nat→Value):Prop where
 low:Below w.heap.size w wr
 box:Bx wr w.heap.size #[.int .i64 (v:Int),.slice (some ⟨G,0,none⟩) n c] 25
 res:Bx wr (w.heap.size+1) #[.int .i64 0,.slice none 0 0] 25
 gbx:Bx wr (w.heap.size+2) #[.int .i64 (v:Int),.slice (some ⟨G',0,none⟩) n c'] 25
 gg:w.heap.size+3≤G'
 fn:FnL wr lab base (.slice (some ⟨G',0,none⟩) n c') g pv iv av
 bs:base≤w.heap.size
 fr:∀q,wr.heap.size≤q→lab q=(0,0,0)
 old:∀q,q<w.heap.size→lab0 q=(0,0,0)→lab q=(0,0,0)
 bxl:∀q,w.heap.size≤q→q<w.heap.size+3→lab q=(0,0,0)
theorem turn1_len (xs:List Blk):(turn1 xs).length=xs.length:=by simp [turn1]
theorem turn1_at {xs:List Blk} {b:Nat} (hb:b<(turn1 xs).length) (ho:othN b xs.length<xs.length):(turn1 xs)[b]=⟨xs[othN b xs.length].phis,xs[othN b xs.length].instrs,turnT xs.length xs[othN b xs.length].term⟩:=by
 simp [turn1,ho]
theorem T1S.turn {w wr:World} {lab:Nat→Nat × Nat × Nat} {base v G n c:Nat} {xs:List Blk} {pv iv:Nat→Value} {av:Nat→Nat→Value} {vg:Value} (hF:FnL w lab base (.slice (some ⟨G,0,none⟩) n c) xs pv iv av) (hn:n=xs.length) (hbs:base≤w.heap.size) (h1:1≤n) (h:T1S w wr v G n c pv iv xs vg n) :
  ∃G' c' lab',vg=.slice (some ⟨G',0,none⟩) n c'∧T2S w wr lab lab' base v G n c G' c' (turn1 xs) (fun i=>pv (othN i n)) (fun i=>iv (othN i n)) (fun i=>av (othN i n)):=by
 subst hn
 obtain ⟨G',c',e,hg⟩:=own_some' h.own (by omega)
 subst e
 have hlt:=h.own.lt G' rfl
 have hlen:=turn1_len xs
 have rl:∀{L L':Nat × Nat × Nat} {t sz:Nat} {u:Value} {m:Nat} {cs:List Value},RowL w lab L base t sz u m cs→relab xs.length L=L'→RowL wr (fun q=>if q<w.heap.size then relab xs.length (lab q) else if q=G' then (1,0,0) else (0,0,0)) L' base t sz u m cs:=fun hr hL=>⟨own_same hr.own (fun b e=>h.low.block b (hr.own.lt b e).2),fun b e=>by
  show (if b<w.heap.size then relab xs.length (lab b) else _)=_
  rw [if_pos (hr.own.lt b e).2,hr.lab b e,hL]⟩
 refine ⟨G',c',fun q=>if q<w.heap.size then relab xs.length (lab q) else if q=G' then (1,0,0) else (0,0,0),rfl,h.low,h.box,h.res,h.gbx,hlt.1,⟨⟨?_,fun b e=>?_⟩,fun i hi=>?_,fun i hi=>?_,fun i hi j hj=>?_⟩,hbs,fun q hq=>?_,fun q hq h0=>?_,fun q h0 h3=>?_⟩
 ·have:=own_base h.own (show base≤w.heap.size+3 by omega)
  rw [List.take_of_length_le (by omega)] at this
  rw [hlen]
  exact this
 ·have e2:G'=b:=by injection e
  subst e2
  show (if G' < w.heap.size then _ else if G'=G' then _ else _)=_
  rw [if_neg (by omega),if_pos rfl]
 ·have ho:=oth_lt (show i<xs.length by omega)
  rw [turn1_at hi ho]
  refine rl (hF.phis _ ho) ?_
  unfold relab
  rw [if_neg (by simp),if_neg (by simp),oth_oth (by omega)]
 ·have ho:=oth_lt (show i<xs.length by omega)
  rw [turn1_at hi ho]
  refine rl (hF.ins _ ho) ?_
  unfold relab
  rw [if_neg (by simp),if_neg (by simp),oth_oth (by omega)]
 ·have ho:=oth_lt (show i<xs.length by omega)
  have e:=turn1_at hi ho
  simp only [e] at hj ⊢
  refine rl (hF.args _ ho j hj) ?_
  unfold relab
  rw [if_neg (by simp),if_neg (by simp),oth_oth (by omega)]
 ·have:=hlt.2
  have:=h.low.size
  show (if q<w.heap.size then _ else if q=G' then _ else _)=_
  rw [if_neg (by omega),if_neg (by omega)]
 ·show (if q<w.heap.size then relab xs.length (lab q) else _)=_
  rw [if_pos hq,h0]
  rfl
 ·have:=hlt.1
  show (if q<w.heap.size then _ else if q=G' then _ else _)=_
  rw [if_neg (by omega),if_neg (by omega)]
theorem T2S.step {w wr w1 w2:World} {lab0 lab lab3:Nat→Nat × Nat × Nat} {base v G n c G' c' b:Nat} {g:List Blk} {pv iv:Nat→Value} {av:Nat→Nat→Value} {vp:Value} {ps:List Ph} {av3:Nat→Value} (h:T2S w wr lab0 lab base v G n c G' c' g pv iv av) (hb:b<g.length) (hlow:Below wr.heap.size wr w1) (hp:PhS w1 w2 lab3 b vp ps av3) :
  w2.frozen? ⟨G',b*6,none⟩=false∧∃lab',T2S w (w2.setCell ⟨G',b*6,none⟩ vp) lab0 lab' base v G n c G' c' (g.set b ⟨ps,g[b].instrs,g[b].term⟩) (fun i=>if i=b then vp else pv i) iv (fun i=>if i=b then av3 else av i):=by
 have hs1:=hlow.size
 have hs2:=hp.low.size
 have hs0:=h.low.size
 have hnl:=row_n h.fn.blks
 have hGl:=h.fn.blks.lab G' rfl
 have hGb:=h.fn.blks.own.lt G' rfl
 have kb:∀q,q<wr.heap.size→w2.heap[q]?=wr.heap[q]?:=fun q hq=>(hp.low.block q (by omega)).trans (hlow.block q hq)
 have old:∀{L:Nat × Nat × Nat} {t sz:Nat} {u:Value} {m:Nat} {cs:List Value},RowL wr lab L base t sz u m cs→L≠(1,0,0)→¬((L.1=2∨L.1=4)∧L.2.1=b)→RowL (w2.setCell ⟨G',b*6,none⟩ vp) (fun q=>if q<w1.heap.size then (if ((lab q).1=2∨(lab q).1=4)∧(lab q).2.1=b then (9,0,0) else lab q) else lab3 q) L base t sz u m cs:=fun hr h1 h2=>⟨own_same hr.own (fun q e=>(Below.heap_setCell _ _ _ _ (fun e2=>h1 (by rw [←hr.lab q e,e2,hGl]))).trans (kb q (hr.own.lt q e).2)),fun q e=>by
  show (if q<w1.heap.size then _ else _)=_
  rw [if_pos (by have:=(hr.own.lt q e).2;omega),hr.lab q e,if_neg h2]⟩
 have new:∀{L:Nat × Nat × Nat} {t sz:Nat} {u:Value} {m:Nat} {cs:List Value},RowL w2 lab3 L w1.heap.size t sz u m cs→RowL (w2.setCell ⟨G',b*6,none⟩ vp) (fun q=>if q<w1.heap.size then (if ((lab q).1=2∨(lab q).1=4)∧(lab q).2.1=b then (9,0,0) else lab q) else lab3 q) L base t sz u m cs:=fun hr=>⟨own_base (own_same hr.own (fun q e=>Below.heap_setCell _ _ _ _ (by have:=(hr.own.lt q e).1;show q≠G';omega))) (by have:=h.bs;omega),fun q e=>by
  show (if q<w1.heap.size then _ else _)=_
  rw [if_neg (by have:=(hr.own.lt q e).1;omega),hr.lab q e]⟩
 have hbl:RowL w2 lab (1,0,0) base 41 6 (.slice (some ⟨G',0,none⟩) n c') n (blksV pv iv g):=by
  have:=h.fn.blks
  rw [hnl] at this
  exact ⟨own_same this.own (fun q e=>kb q (this.own.lt q e).2),this.lab⟩
 refine ⟨hbl.thaw _,fun q=>if q<w1.heap.size then (if ((lab q).1=2∨(lab q).1=4)∧(lab q).2.1=b then (9,0,0) else lab q) else lab3 q,?_,?_,?_,?_,h.gg,⟨⟨?_,fun q e=>?_⟩,fun i hi=>?_,fun i hi=>?_,fun i hi j hj=>?_⟩,h.bs,fun q hq=>?_,fun q hq h0=>?_,fun q h0 h3=>?_⟩
 ·have:=h.gg
  exact ((h.low.trans (hlow.mono hs0)).trans (hp.low.mono (by omega))).setCell (by show w.heap.size≤G';omega) _
 ·exact (h.box.keep (kb _ h.box.lt)).other (by have:=h.gg;omega)
 ·exact (h.res.keep (kb _ h.res.lt)).other (by have:=h.gg;omega)
 ·exact (h.gbx.keep (kb _ h.gbx.lt)).other (by have:=h.gg;omega)
 ·rw [List.length_set,hnl]
  have hset:=(hbl.set (b*6) vp).own
  have e:blksV (fun i=>if i=b then vp else pv i) iv (g.set b ⟨ps,g[b].instrs,g[b].term⟩)=(blksV pv iv g).set (b*6) vp:=by
   unfold blksV
   have:=flatI_set (f:=fun i (x:Blk)=>bkC (pv i) (iv i) x.term) (f':=fun i (x:Blk)=>bkC (if i=b then vp else pv i) (iv i) x.term) (sz:=6) (fun _ _=>rfl) 0 g b hb ⟨ps,g[b].instrs,g[b].term⟩ 0 vp (by omega) (by (try dsimp only);rw [Nat.zero_add,if_pos rfl];rfl) (fun j hj hne=>by (try dsimp only);rw [Nat.zero_add,if_neg hne])
   rw [Nat.add_zero] at this
   exact this
  rw [e]
  exact hset
 ·have e2:G'=q:=by injection e
  subst e2
  show (if G' < w1.heap.size then _ else _)=_
  rw [if_pos (by omega),hGl,if_neg (by simp)]
 ·by_cases e:i=b
  ·subst e
   simp only [List.getElem_set_self,if_pos]
   exact new hp.row
  ·simp only [List.getElem_set_ne (fun e2=>e e2.symm),if_neg e]
   exact old (h.fn.phis i (by simpa using hi)) (by simp) (by simp;omega)
 ·by_cases e:i=b
  ·subst e
   simp only [List.getElem_set_self]
   exact old (h.fn.ins i (by simpa using hi)) (by simp) (by simp)
  ·simp only [List.getElem_set_ne (fun e2=>e e2.symm)]
   exact old (h.fn.ins i (by simpa using hi)) (by simp) (by simp)
 ·by_cases e:i=b
  ·subst e
   simp only [List.getElem_set_self] at hj ⊢
   simp only [if_pos]
   exact new (hp.args j hj)
  ·simp only [List.getElem_set_ne (fun e2=>e e2.symm)] at hj ⊢
   simp only [if_neg e]
   exact old (h.fn.args i (by simpa using hi) j hj) (by simp) (by simp;omega)
 ·have hq':w2.heap.size≤q:=by simpa [World.setCell] using hq
  show (if q<w1.heap.size then _ else _)=_
  rw [if_neg (by omega)]
  exact hp.fr q hq'
 ·have h9:=h.old q hq h0
  show (if q<w1.heap.size then _ else _)=_
  rw [if_pos (by omega),h9,if_neg (by simp)]
 ·have h9:=h.bxl q h0 h3
  have:=h.gg
  show (if q<w1.heap.size then _ else _)=_
  rw [if_pos (by omega),h9,if_neg (by simp)]
theorem T2S.keep {w wr w':World} {lab0 lab:Nat→Nat × Nat × Nat} {base v G n c G' c':Nat} {g:List Blk} {pv iv:Nat→Value} {av:Nat→Nat→Value} (h:T2S w wr lab0 lab base v G n c G' c' g pv iv av) (k:Below wr.heap.size wr w'):T2S w w' lab0 lab base v G n c G' c' g pv iv av:=⟨h.low.trans (k.mono h.low.size),h.box.keep (k.block _ h.box.lt),h.res.keep (k.block _ h.res.lt),h.gbx.keep (k.block _ h.gbx.lt),h.gg,h.fn.sp (⟨k.size,fun b _ h2 _=>⟨k.block b h2,rfl⟩,fun hf q hq=>hf q (Nat.le_trans k.size hq)⟩:SpL wr w' lab lab base (fun _=>True)) 0 (fun _ _ _ _ _=>trivial) (Or.inl (fun _ _=>trivial)),h.bs,fun q hq=>h.fr q (Nat.le_trans k.size hq),h.old,h.bxl⟩
theorem T2S.drew {w wr:World} {lab0 lab:Nat→Nat × Nat × Nat} {base v G n c G' c':Nat} {g:List Blk} {pv iv:Nat→Value} {av:Nat→Nat→Value} (h:T2S w wr lab0 lab base v G n c G' c' g pv iv av):T2S w wr.drew lab0 lab base v G n c G' c' g pv iv av:=⟨h.low.drew,h.box,h.res,h.gbx,h.gg,h.fn.sp (⟨Nat.le_refl _,fun _ _ _ _=>⟨rfl,rfl⟩,fun h=>h⟩:SpL wr wr.drew lab lab base (fun _=>True)) 0 (fun _ _ _ _ _=>trivial) (Or.inl (fun _ _=>trivial)),h.bs,h.fr,h.old,h.bxl⟩
theorem PhS.start (w:World) (b:Nat):PhS w (w.alloc (.cells #[] 72)) (fun q=>if q=w.heap.size then (2,b,0) else (0,0,0)) b (.slice (some ⟨w.heap.size,0,none⟩) 0 0) [] (fun _=>undef):=by
 refine ⟨balloc (Below.refl _ _) _,⟨World.ownsRow_lit (base:=w.heap.size) (e:=72) (size:=2) w #[] 0 (by simp) (by simp) rfl,fun q e=>?_⟩,fun j hj=>absurd hj (by simp),fun q hq=>?_⟩
 ·have e2:w.heap.size=q:=by injection e
  show (if q=w.heap.size then _ else _)=_
  rw [if_pos e2.symm]
 ·rw [World.size_alloc] at hq
  show (if q=w.heap.size then _ else _)=_
  rw [if_neg (by omega)]
end Go.Proofs.YtdfdmjcngkfciaaDoor
