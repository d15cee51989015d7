import Derived.Test.YtkehcdfalcakmaaGreatDoorTN0
namespace Go.Proofs.YtkehcdfalcakmaaGreatDoor
set_option maxHeartbeats 4000000
set_option maxRecDepth 100000
open Go.RowKit
structure T1S(w wr:World)(v G n c:Nat)(pv iv:Nat->Value)(xs:List Xf)(vg:Value)(b:Nat):Prop where
 low:Below w.heap.size w wr
 box:Bx wr w.heap.size #[.int .i64 (v:Int),.slice (some ⟨G,0,none⟩) n c] 25
 res:Bx wr (w.heap.size+1) #[.int .i64 0,.slice none 0 0] 25
 gbx:Bx wr (w.heap.size+2) #[.int .i64 (v:Int),vg] 25
 own:wr.ownsRow (w.heap.size+3) 43 6 vg b (Xy (fun i=>pv (othN i n)) (fun i=>iv (othN i n)) ((Y6 xs).take b))
theorem T1S.keep{w wr w':World}{v G n c:Nat}{pv iv:Nat->Value}{xs:List Xf}{vg:Value}{b:Nat}(h:T1S w wr v G n c pv iv xs vg b)(k:Below wr.heap.size wr w'):T1S w w' v G n c pv iv xs vg b :=
 ⟨h.low.trans (k.mono h.low.size),h.box.keep (k.block _ h.box.lt),h.res.keep (k.block _ h.res.lt),h.gbx.keep (k.block _ h.gbx.lt),YA h.own (fun q e=>k.block q (h.own.lt q e).2)⟩
theorem T1S.push{w w2 w8:World}{v G n c:Nat}{pv iv:Nat->Value}{xs:List Xf}{vg v8:Value}{b n':Nat}{o:Obj}{tt:XN}(h:T1S w w2 v G n c pv iv xs vg b)(hg:(w2.alloc o).grownBy w8 vg.ownBlock)(ho:w8.ownsRow (w.heap.size+3) 43 6 v8 n' ((Xy (fun i=>pv (othN i n)) (fun i=>iv (othN i n)) ((Y6 xs).take b))++[pv (othN b n),iv (othN b n),.int .i64 (Yp n tt).kind,.int .i64 (Yp n tt).a,.int .i64 (Yp n tt).to,.int .i64 (Yp n tt).els]))(hn':n'=b+1)(hn:n=xs.length)(hb:b<n)(ht:tt=(xs.getD (othN b n) XL).term) :
 Bx w8 (w.heap.size+2) #[.int .i64 (v:Int),vg] 25/\T1S w (w8.setCell ⟨w.heap.size+2,1,none⟩ v8) v G n c pv iv xs v8 (b+1):=by
 have hz:=h.gbx.lt;have kb:∀q,q<w.heap.size+3->w8.heap[q]?=w2.heap[q]?:=fun q hq=>(hg.block q (by simp;omega) (fun e=>by have:=(h.own.lt q e.symm).1;omega)).trans (Below.heap_alloc _ _ _ (by omega))
 have hlow:Below w.heap.size w w8:=(h.low.trans (Below.alloc (Below.refl _ _) (by omega) o)).trans (XG (Below.refl _ _) hg (h.own.alloc o) (by omega) (by simp;omega));have hgb:=h.gbx.keep (kb _ (by omega));refine⟨hgb,hlow.setCell (by show w.heap.size<=w.heap.size+2;omega) _,(h.box.keep (kb _ (by omega))).other (by omega),(h.res.keep (kb _ (by omega))).other (by omega),?_,?_⟩
 ·have:=hgb.set 1 v8
  simpa using this
 ·subst hn'
  have hl:(Y6 xs).length=n:=by rw[hn];simp[Y6]
  have e:(Xy (fun i=>pv (othN i n)) (fun i=>iv (othN i n)) ((Y6 xs).take (b+1)))=(Xy (fun i=>pv (othN i n)) (fun i=>iv (othN i n)) ((Y6 xs).take b))++[pv (othN b n),iv (othN b n),.int .i64 (Yp n tt).kind,.int .i64 (Yp n tt).a,.int .i64 (Yp n tt).to,.int .i64 (Yp n tt).els]:=by
   have hbl:b<(Y6 xs).length:=by omega
   rw[List.take_succ_eq_append_getElem hbl];unfold Xy;rw[Y8,Nat.zero_add,List.length_take,Nat.min_eq_left (by omega)];have e2:(Y6 xs)[b].term=Yp n tt:=by rw[ht];simp[Y6,hn]
   rw[e2];rfl
  rw[e];refine ownsRow_setCell_other ho (fun e=>?_) v8;have:=(ho.lt _ e).1;simp at this
structure T1 where
 b:Nat
 vg:Value
 c6:Value
 tl:List Value
theorem tn1{Q:Exit->Act->World->Prop}(w:World)(v G n c:Nat)(lab:Nat->Nat × Nat × Nat)(base:Nat)(xs:List Xf)(pv iv:Nat->Value)(av:Nat->Nat->Value)(c0 c7 c8 c9 c10 c11 c12 c13 c14:Value)(hQ:Hid (∀c (a:Act) t v w,Q (.panic c) (a.put (some t) v) w->Q (.panic c) a w))(hF:Hid (Z5 w lab base (.slice (some ⟨G,0,none⟩) n c) xs pv iv av))(hn:Hid (n=xs.length))(hn2:n<=11)(htg:Hid (TgB xs))
 (hexit:∀(vg c6:Value)(tl:List Value)(w':World),tl.length=134->T1S w w' v G n c pv iv xs vg n->Q (.exit 0) ⟨(c0::.pointer (some ⟨w.heap.size,0,none⟩)::.pointer (some ⟨(w.heap.size+1),0,none⟩)::.int .i64 ((n:Nat):Int)::.pointer (some ⟨(w.heap.size+2),0,none⟩)::.int .i64 ((n:Nat):Int)::c6::c7::c8::c9::c10::c11::c12::c13::c14::tl).toArray,[]⟩ w')
 (vg c6:Value) (tl:List Value) (wr:World) (hl:tl.length=134) (h:Hid (T1S w wr v G n c pv iv xs vg 0)) :
 Code.wp Tryz.prog (Code.loop tB1) Q ⟨(c0::.pointer (some ⟨w.heap.size,0,none⟩)::.pointer (some ⟨(w.heap.size+1),0,none⟩)::.int .i64 ((n:Nat):Int)::.pointer (some ⟨(w.heap.size+2),0,none⟩)::.int .i64 ((0:Nat):Int)::c6::c7::c8::c9::c10::c11::c12::c13::c14::tl).toArray,[]⟩ wr:=by
 have HX:=Xa hexit;clear hexit;obtain⟨i0,hi0,hz0,hz1,hz2⟩:=X0 Tryz.infoBlkD;refine wp_loop (fun a' wr=>∃x:T1,a'=⟨(c0::.pointer (some ⟨w.heap.size,0,none⟩)::.pointer (some ⟨(w.heap.size+1),0,none⟩)::.int .i64 ((n:Nat):Int)::.pointer (some ⟨(w.heap.size+2),0,none⟩)::.int .i64 ((x.b:Nat):Int)::x.c6::c7::c8::c9::c10::c11::c12::c13::c14::x.tl).toArray,[]⟩/\x.tl.length=134/\x.b<=n/\Hid (T1S w wr v G n c pv iv xs x.vg x.b)) (fun a' _=>n-(intOf (a'.tmps.getD 5 undef)).toNat) ⟨⟨0,vg,c6,tl⟩,rfl,hl,Nat.zero_le _,h⟩ ?_;clear h hl;rintro a' wr ⟨⟨b,vg,c6,tl⟩,rfl,hl,hb,HS⟩;dsimp only at hl hb HS |-
 conv=>arg 2;whnf
 obtain⟨f,rfl⟩:=K4 tl hl;clear hl;by_cases hlt:b<n
 ·have hltI:(b:Int)<n:=by omega
  have hob:othN b n<n:=by unfold othN;split<;>omega
  have hox:othN b n<xs.length:=by rw[<-hn.out];exact hob
  have hoz:Jo (b:Int) n=((othN b n:Nat):Int):=by
   unfold Jo othN;split
   ·rename_i h
    have:b=0:=by omega
    rw[if_pos this];rfl
   ·rename_i h
    rw[if_neg (by omega)];omega
  have HOZ:=Xa hoz;clear hoz;obtain⟨p0,p1,t0,t1,t2,t3⟩:=hF.cells hox;have hGl:=(hF.blks.own.lt G rfl).2;have KC:=Xa (fun W (hW:Below w.heap.size w W) o=>hW.cell (p:=⟨G,o,none⟩) hGl);have x1:wr.cell? ⟨w.heap.size,1,none⟩=some (.slice (some ⟨G,0,none⟩) n c):=Bx.cell HS.box rfl;have y0:=(KC.out _ HS.low _).trans p0;have y1:=(KC.out _ HS.low _).trans p1;have y2:=(KC.out _ HS.low _).trans t0;have y3:=(KC.out _ HS.low _).trans t1;have y4:=(KC.out _ HS.low _).trans t2;have y5:=(KC.out _ HS.low _).trans t3;obtain⟨pa,pc,hpv⟩:=(hF.phis _ hox).form;obtain⟨ia,ic,hiv⟩:=(hF.ins _ hox).form;rw[hpv]at y0;rw[hiv]at y1;have HTT:Hid (xs[othN b n].term=(xs.getD (othN b n) XL).term):=Xa (by simp[hox]);have HTG:=Xa (htg.out _ (List.getElem_mem hox));rw[<-hn.out]at HTG;have HPV:=Xa hpv;have HIV:=Xa hiv;clear hpv hiv p0 p1 t0 t1 t2 t3;generalize xs[othN b n].phis.length=pl at *;generalize xs[othN b n].instrs.length=il at *;generalize xs[othN b n].term=tt at *;have HEO:Hid (othN b n=othN b n):=Xa rfl;generalize hoe:othN b n=ob at x1 y0 y1 y2 y3 y4 y5 HOZ hob;have HOE:=Xa hoe;clear hoe HEO;have HLR:Hid (w.heap.size+3<=wr.heap.size):=Xa HS.gbx.lt;have HBX:Hid (Below wr.heap.size wr (wr.alloc (.cells #[.slice pa pl pc,.slice ia il ic,.int .i64 tt.kind,.int .i64 tt.a,.int .i64 tt.to,.int .i64 tt.els] 43)).drew/\Bx (wr.alloc (.cells #[.slice pa pl pc,.slice ia il ic,.int .i64 tt.kind,.int .i64 tt.a,.int .i64 tt.to,.int .i64 tt.els] 43)).drew wr.heap.size #[.slice pa pl pc,.slice ia il ic,.int .i64 tt.kind,.int .i64 tt.a,.int .i64 tt.to,.int .i64 tt.els] 43):=Xa ⟨(Xb (Below.refl _ _) _).drew,Bx.new _ _ _⟩;have HDC:Hid (∀q o u,q<wr.heap.size->wr.cell? ⟨q,o,none⟩=some u->(wr.alloc (.cells #[.slice pa pl pc,.slice ia il ic,.int .i64 tt.kind,.int .i64 tt.a,.int .i64 tt.to,.int .i64 tt.els] 43)).drew.cell? ⟨q,o,none⟩=some u):=Xa (fun q o u hq hu=>(HBX.1.cell (p:=⟨q,o,none⟩) hq).trans hu);have HOWN:Hid (vg.ownBlock≠some wr.heap.size):=Xa (fun e=>by have:=(HS.own.lt _ e).2;omega);have hGr:G<wr.heap.size:=by have:=HLR.out;omega
  have hwr:w.heap.size<wr.heap.size:=by have:=HLR.out;omega
  go_upto_region 6 with fail
  go_cut [6] from 21 to 60 (fun c6 wx=>c6=.pointer (some ⟨wr.heap.size,0,none⟩)/\Hid (Below wr.heap.size wr wx/\Bx wx wr.heap.size #[.slice pa pl pc,.slice ia il ic,.int .i64 tt.kind,.int .i64 tt.a,.int .i64 tt.to,.int .i64 tt.els] 43))
  case first =>
   refine YZ (fun w'=>w'.cell? ⟨w.heap.size,1,none⟩=some (.slice (some ⟨G,0,none⟩) n c)/\w'.cell? ⟨G,ob*6,none⟩=some (.slice pa pl pc)/\w'.cell? ⟨G,ob*6+1,none⟩=some (.slice ia il ic)/\w'.cell? ⟨G,ob*6+2,none⟩=some (.int .i64 tt.kind)/\w'.cell? ⟨G,ob*6+2+1,none⟩=some (.int .i64 tt.a)/\w'.cell? ⟨G,ob*6+2+2,none⟩=some (.int .i64 tt.to)/\w'.cell? ⟨G,ob*6+2+3,none⟩=some (.int .i64 tt.els)) (fun hHeld=>?_);refine XI 0 ?_;refine XI 1 ?_;refine XI 2 ?_;refine XI 3 ?_;refine wpAnyH_ready (rs:=[4,7]) (by kernel_rfl) (by simp) ?_;refine(AllReadyH.cons rfl (fun K hK=>?_) (AllReadyH.cons rfl (fun K hK=>?_) AllReadyH.nil))
   focus
    go_simp
    go_at_call 90
    refine(ZP (b:Int) n _ (by omega) (by omega) (by omega)).mono ?_;rintro e w1 ⟨rfl,hw1⟩;subst hw1;rw[HOZ.out];refine hK _ _ ⟨x1,y0,y1,y2,y3,y4,y5⟩ (fun hHeld=>?_);clear hK
    try simp only[Act.put,xA,xB,xC,xD,xE,xF]
    refine XI 5 ?_;refine wpAnyH_ready (rs:=[6,7]) (by kernel_rfl) (by simp) ?_;refine(AllReadyH.cons rfl (fun K hK=>?_) (AllReadyH.cons rfl (fun K hK=>?_) AllReadyH.nil))
   focus
    go_simp;refine hK _ _ (by first | with_reducible exact hHeld | ((try dsimp only);go_keep)) (fun hHeld=>?_);clear hK
    try simp only[Act.put,xA,xB,xC,xD,xE,xF]
    refine Xw 7 (fun K hK=>?_);go_simp;refine hK _ _ (by first | with_reducible exact hHeld | ((try dsimp only);go_keep)) (fun hHeld=>?_);clear hK
   rotate_left
   focus
    go_simp;refine hK _ _ (by first | with_reducible exact hHeld | ((try dsimp only);go_keep)) (fun hHeld=>?_);clear hK
    try simp only[Act.put,xA,xB,xC,xD,xE,xF]
    refine Xw 6 (fun K hK=>?_);go_simp;refine hK _ _ (by first | with_reducible exact hHeld | ((try dsimp only);go_keep)) (fun hHeld=>?_);clear hK
   rotate_left
   focus
    go_simp;refine hK _ _ (by first | with_reducible exact hHeld | ((try dsimp only);go_keep)) (fun hHeld=>?_);clear hK
    try simp only[Act.put,xA,xB,xC,xD,xE,xF]
    refine Xw 4 (fun K hK=>?_);go_simp
    go_at_call 90
    refine(ZP (b:Int) n _ (by omega) (by omega) (by omega)).mono ?_;rintro e w1 ⟨rfl,hw1⟩;subst hw1;rw[HOZ.out];refine hK _ _ hHeld (fun hHeld=>?_);clear hK;refine XI 5 ?_;refine Xw 6 (fun K hK=>?_);go_simp;refine hK _ _ (by first | with_reducible exact hHeld | ((try dsimp only);go_keep)) (fun hHeld=>?_);clear hK
   all_goals (
    refine Xw 8 (fun K hK=>?_);go_simp;refine hK _ _ ⟨HDC.out _ _ _ (by omega) x1,HDC.out _ _ _ (by omega) y0,HDC.out _ _ _ (by omega) y1,HDC.out _ _ _ (by omega) y2,HDC.out _ _ _ (by omega) y3,HDC.out _ _ _ (by omega) y4,HDC.out _ _ _ (by omega) y5⟩ (fun hHeld=>?_);clear hK;refine Y7 ?_;clear hHeld
    go_wp2_with fail
    go_meet;exact⟨rfl,HBX⟩)
  case rest =>
   obtain⟨rfl,HX1⟩:=hcut;clear x1 y0 y1 y2 y3 y4 y5 HBX HDC;have HSR:Hid (∀W,Below wr.heap.size wr W->T1S w W v G n c pv iv xs vg b):=Xa (fun W hW=>HS.keep hW);have HS1:=Xa (HS.keep HX1.1);have HXB:=Xa HX1.2;have HLW:=Xa HX1.1;have hlr:=HLR.out;clear HS HX1;generalize wc=w1 at *;have HNB:Hid (vg.ownBlock≠some wr.heap.size):=Xa HOWN.out;generalize wr.heap.size=xb at *;have q2:w1.cell? ⟨xb,2,none⟩=some (.int .i64 tt.kind):=Bx.cell HXB.out rfl;have q4:w1.cell? ⟨xb,4,none⟩=some (.int .i64 tt.to):=Bx.cell HXB.out rfl;have q5:w1.cell? ⟨xb,5,none⟩=some (.int .i64 tt.els):=Bx.cell HXB.out rfl;have qz:=Bx.thaw HXB.out
   go_upto_if 36 with fail
   have htb:=HTG.2
   go_cut [] from 21 to 60 (fun wy=>Hid (Below xb wr wy/\Bx wy xb #[.slice pa pl pc,.slice ia il ic,.int .i64 tt.kind,.int .i64 tt.a,.int .i64 (Yp n tt).to,.int .i64 tt.els] 43))
   case first =>
    by_cases hk:tt.kind=3
    ·have hkb:(tt.kind != 3)=false:=by simpa using hk
     have HE:Hid ((Yp n tt).to=tt.to):=Xa (by unfold Yp;dsimp only;rw[if_neg (fun h=>h hk)]);clear hk
     go_wp2_with fail
     go_meet;rw[HE.out];exact Xa ⟨HLW.out,HXB.out⟩
    ·have hkb:(tt.kind != 3)=true:=by simpa using hk
     have HE:Hid ((Yp n tt).to=Jo tt.to n):=Xa (by unfold Yp;dsimp only;rw[if_pos hk]);clear hk
     go_wp2_with fail
     refine(ZP tt.to n _ (by omega) (by omega) (by omega)).mono ?_;rintro e w2 ⟨rfl,hw2⟩;subst hw2
     go_wp2_with fail
     go_meet;rw[HE.out];refine Xa ⟨HLW.setCell (Nat.le_refl _) _,?_⟩;have:=HXB.set 4 (.int .i64 (Jo tt.to n));simpa using this
   case rest =>
    have HX2:=Xa hcut.out;clear HXB q2 q4 q5 qz HLW hcut HS1;have HLW:=Xa HX2.1;have HXB:=Xa HX2.2;clear HX2;generalize wc=w2 at *;have q2:w2.cell? ⟨xb,2,none⟩=some (.int .i64 tt.kind):=Bx.cell HXB.out rfl;have q4:w2.cell? ⟨xb,4,none⟩=some (.int .i64 (Yp n tt).to):=Bx.cell HXB.out rfl;have q5:w2.cell? ⟨xb,5,none⟩=some (.int .i64 tt.els):=Bx.cell HXB.out rfl;have qz:=Bx.thaw HXB.out
    go_upto_if 47 with fail
    go_cut [] from 21 to 60 (fun wy=>Hid (Below xb wr wy/\Bx wy xb #[.slice pa pl pc,.slice ia il ic,.int .i64 (Yp n tt).kind,.int .i64 (Yp n tt).a,.int .i64 (Yp n tt).to,.int .i64 (Yp n tt).els] 43))
    case first =>
     by_cases hk:tt.kind=2
     ·have hkb:(tt.kind==2)=true:=by simpa using hk
      have HE:Hid ((Yp n tt).els=Jo tt.els n):=Xa (by unfold Yp;dsimp only;rw[if_pos hk]);clear hk
      go_wp2_with fail
      refine(ZP tt.els n _ (by omega) (by omega) (by omega)).mono ?_;rintro e w3 ⟨rfl,hw3⟩;subst hw3
      go_wp2_with fail
      go_meet;rw[HE.out];refine Xa ⟨HLW.setCell (Nat.le_refl _) _,?_⟩;have:=HXB.set 5 (.int .i64 (Jo tt.els n));simpa [Yp]using this
     ·have hkb:(tt.kind==2)=false:=by simpa using hk
      have HE:Hid ((Yp n tt).els=tt.els):=Xa (by unfold Yp;dsimp only;rw[if_neg hk]);clear hk
      go_wp2_with fail
      go_meet;rw[HE.out];exact Xa ⟨HLW.out,HXB.out⟩
    case rest =>
     have HX2:=Xa hcut.out;clear HXB q2 q4 q5 qz HLW hcut;have HS3:Hid (T1S w wc v G n c pv iv xs vg b):=Xa (HSR.out _ HX2.1);have HXB:=Xa HX2.2;clear HX2;generalize wc=w3 at *;generalize hTn:Yp n tt=Tn at *;have HTN:=Xa hTn;clear hTn;have f1:w3.cell? ⟨w.heap.size+2,1,none⟩=some vg:=Bx.cell HS3.gbx rfl;have q0:w3.cell? ⟨xb,0,none⟩=some (.slice pa pl pc):=Bx.cell HXB.out rfl;have q1:w3.cell? ⟨xb,1,none⟩=some (.slice ia il ic):=Bx.cell HXB.out rfl;have q2:w3.cell? ⟨xb,2,none⟩=some (.int .i64 Tn.kind):=Bx.cell HXB.out rfl;have q3:w3.cell? ⟨xb,3,none⟩=some (.int .i64 Tn.a):=Bx.cell HXB.out rfl;have q4:w3.cell? ⟨xb,4,none⟩=some (.int .i64 Tn.to):=Bx.cell HXB.out rfl;have q5:w3.cell? ⟨xb,5,none⟩=some (.int .i64 Tn.els):=Bx.cell HXB.out rfl;have hgz:=HS3.gbx.lt
     go_wp2_with (at_builtin;refine wpList_append_own_at _ rfl _ _ 23 rfl (w.heap.size+3) 43 i0 (.agg #[.slice none 0 0,.slice none 0 0,.int .i64 0,.int .i64 0,.int .i64 0,.int .i64 0]) 6 80 Tryz.underlying23 hi0 hz0 hz1 hz2 rfl (by decide) vg b (Xy (fun i=>pv (othN i n)) (fun i=>iv (othN i n)) ((Y6 xs).take b)) rfl (HS3.own.alloc _) ⟨w3.heap.size,0,none⟩ 1 1 [.slice pa pl pc,.slice ia il ic,.int .i64 Tn.kind,.int .i64 Tn.a,.int .i64 Tn.to,.int .i64 Tn.els] rfl rfl (World.news_of_block (World.alloc_heap_new _ _)) ?c2 ?c3 ?c4 ?c5 ?_)
     case c2=>intro u hu;simp at hu;rcases hu with rfl | rfl | rfl | rfl | rfl | rfl<;>rfl
     case c3=>unfold maxLen;omega
     case c4=>omega
     case c5=>simp;omega
     intro v8 w8 hown8 hg8 hne8 hat8;have HPU:Hid (Bx w8 (w.heap.size+2) #[.int .i64 (v:Int),vg] 25/\T1S w (w8.setCell ⟨w.heap.size+2,1,none⟩ v8) v G n c pv iv xs v8 (b+1)):=Xa (HS3.push (tt:=tt) hg8 (by rw[HTN.out,HPV.out,HIV.out];exact hown8) rfl hn.out hlt HTT.out);obtain⟨g8,c8',rfl,hgb8,hcap⟩:=Xj hown8 (by omega);clear hgb8 hcap hne8 hat8 hown8 hg8 q0 q1 q2 q3 q4 q5 f1;have k1:w8.cell? ⟨w.heap.size+2,1,none⟩=some vg:=Bx.cell HPU.1 rfl;have kz:=Bx.thaw HPU.1;have HF:=Xa HPU.2;clear HPU
     go_wp2_with fail
     exact⟨⟨⟨b+1,_,_,_⟩,rfl,rfl,(by show b+1<=n;omega),HF⟩,by simp[intOf];omega⟩
 ·have hltI:¬(b:Int)<n:=by omega
  have hbe:b=n:=by omega
  subst hbe
  go_wp2_with fail
  exact HX.out _ _ _ _ (by rfl) HS.out
end Go.Proofs.YtkehcdfalcakmaaGreatDoor
namespace Go.Proofs.YtkehcdfalcakmaaGreatDoor
open Go.RowKit
def UU(n:Nat)(L:Nat × Nat × Nat):Nat × Nat × Nat:=if L.1=0 then (0,0,0)else if L.1=1 then (9,0,0)else (L.1,othN L.2.1 n,L.2.2)
structure T2S(w wr:World)(lab0 lab:Nat->Nat × Nat × Nat)(base v G n c G' c':Nat)(g:List Xf)(pv iv:Nat->Value)(av:Nat->Nat->Value):Prop where
 low:Below w.heap.size w wr
 box:Bx wr w.heap.size #[.int .i64 (v:Int),.slice (some ⟨G,0,none⟩) n c] 25
 res:Bx wr (w.heap.size+1) #[.int .i64 0,.slice none 0 0] 25
 gbx:Bx wr (w.heap.size+2) #[.int .i64 (v:Int),.slice (some ⟨G',0,none⟩) n c'] 25
 gg:w.heap.size+3<=G'
 fn:Z5 wr lab base (.slice (some ⟨G',0,none⟩) n c') g pv iv av
 bs:base<=w.heap.size
 fr:∀q,wr.heap.size<=q->lab q=(0,0,0)
 old:∀q,q<w.heap.size->lab0 q=(0,0,0)->lab q=(0,0,0)
 bxl:∀q,w.heap.size<=q->q<w.heap.size+3->lab q=(0,0,0)
theorem WC(xs:List Xf):(Y6 xs).length=xs.length:=by simp[Y6]
theorem Uq{xs:List Xf}{b:Nat}(hb:b<(Y6 xs).length)(ho:othN b xs.length<xs.length):(Y6 xs)[b]=⟨xs[othN b xs.length].phis,xs[othN b xs.length].instrs,Yp xs.length xs[othN b xs.length].term⟩:=by
 simp[Y6,ho]
theorem T1S.turn{w wr:World}{lab:Nat->Nat × Nat × Nat}{base v G n c:Nat}{xs:List Xf}{pv iv:Nat->Value}{av:Nat->Nat->Value}{vg:Value}(hF:Z5 w lab base (.slice (some ⟨G,0,none⟩) n c) xs pv iv av)(hn:n=xs.length)(hbs:base<=w.heap.size)(h1:1<=n)(h:T1S w wr v G n c pv iv xs vg n) :
 ∃G' c' lab',vg=.slice (some ⟨G',0,none⟩) n c'/\T2S w wr lab lab' base v G n c G' c' (Y6 xs) (fun i=>pv (othN i n)) (fun i=>iv (othN i n)) (fun i=>av (othN i n)):=by
 subst hn;obtain⟨G',c',e,hg⟩:=Xj h.own (by omega);subst e;have hlt:=h.own.lt G' rfl;have hlen:=WC xs;have rl:∀{L L':Nat × Nat × Nat}{t sz:Nat}{u:Value}{m:Nat}{cs:List Value},Xq w lab L base t sz u m cs->UU xs.length L=L'->Xq wr (fun q=>if q<w.heap.size then UU xs.length (lab q)else if q=G' then (1,0,0)else (0,0,0)) L' base t sz u m cs:=fun hr hL=>⟨YA hr.own (fun b e=>h.low.block b (hr.own.lt b e).2),fun b e=>by
  show(if b<w.heap.size then UU xs.length (lab b)else _)=_;rw[if_pos (hr.own.lt b e).2,hr.lab b e,hL]⟩
 refine⟨G',c',fun q=>if q<w.heap.size then UU xs.length (lab q)else if q=G' then (1,0,0)else (0,0,0),rfl,h.low,h.box,h.res,h.gbx,hlt.1,⟨⟨?_,fun b e=>?_⟩,fun i hi=>?_,fun i hi=>?_,fun i hi j hj=>?_⟩,hbs,fun q hq=>?_,fun q hq h0=>?_,fun q h0 h3=>?_⟩
 ·have:=Yn h.own (show base<=w.heap.size+3 by omega)
  rw[List.take_of_length_le (by omega)]at this;rw[hlen];exact this
 ·have e2:G'=b:=by injection e
  subst e2;show(if G' < w.heap.size then _ else if G'=G' then _ else _)=_;rw[if_neg (by omega),if_pos rfl]
 ·have ho:=TD (show i<xs.length by omega)
  rw[Uq hi ho];refine rl (hF.phis _ ho) ?_;unfold UU;rw[if_neg (by simp),if_neg (by simp),JD (by omega)]
 ·have ho:=TD (show i<xs.length by omega)
  rw[Uq hi ho];refine rl (hF.ins _ ho) ?_;unfold UU;rw[if_neg (by simp),if_neg (by simp),JD (by omega)]
 ·have ho:=TD (show i<xs.length by omega)
  have e:=Uq hi ho;simp only[e]at hj |-;refine rl (hF.args _ ho j hj) ?_;unfold UU;rw[if_neg (by simp),if_neg (by simp),JD (by omega)]
 ·have:=hlt.2
  have:=h.low.size;show(if q<w.heap.size then _ else if q=G' then _ else _)=_;rw[if_neg (by omega),if_neg (by omega)]
 ·show(if q<w.heap.size then UU xs.length (lab q)else _)=_
  rw[if_pos hq,h0];rfl
 ·have:=hlt.1
  show(if q<w.heap.size then _ else if q=G' then _ else _)=_;rw[if_neg (by omega),if_neg (by omega)]
theorem T2S.step{w wr w1 w2:World}{lab0 lab lab3:Nat->Nat × Nat × Nat}{base v G n c G' c' b:Nat}{g:List Xf}{pv iv:Nat->Value}{av:Nat->Nat->Value}{vp:Value}{ps:List Ph}{av3:Nat->Value}(h:T2S w wr lab0 lab base v G n c G' c' g pv iv av)(hb:b<g.length)(hlow:Below wr.heap.size wr w1)(hp:PhS w1 w2 lab3 b vp ps av3) :
 w2.frozen? ⟨G',b*6,none⟩=false/\∃lab',T2S w (w2.setCell ⟨G',b*6,none⟩ vp) lab0 lab' base v G n c G' c' (g.set b ⟨ps,g[b].instrs,g[b].term⟩) (fun i=>if i=b then vp else pv i) iv (fun i=>if i=b then av3 else av i):=by
 have hs1:=hlow.size;have hs2:=hp.low.size;have hs0:=h.low.size;have hnl:=ZM h.fn.blks;have hGl:=h.fn.blks.lab G' rfl;have hGb:=h.fn.blks.own.lt G' rfl;have kb:∀q,q<wr.heap.size->w2.heap[q]?=wr.heap[q]?:=fun q hq=>(hp.low.block q (by omega)).trans (hlow.block q hq)
 have old:∀{L:Nat × Nat × Nat}{t sz:Nat}{u:Value}{m:Nat}{cs:List Value},Xq wr lab L base t sz u m cs->L≠(1,0,0)->¬((L.1=2\/L.1=4)/\L.2.1=b)->Xq (w2.setCell ⟨G',b*6,none⟩ vp) (fun q=>if q<w1.heap.size then (if ((lab q).1=2\/(lab q).1=4)/\(lab q).2.1=b then (9,0,0)else lab q)else lab3 q) L base t sz u m cs:=fun hr h1 h2=>⟨YA hr.own (fun q e=>(Below.heap_setCell _ _ _ _ (fun e2=>h1 (by rw[<-hr.lab q e,e2,hGl]))).trans (kb q (hr.own.lt q e).2)),fun q e=>by
  show(if q<w1.heap.size then _ else _)=_;rw[if_pos (by have:=(hr.own.lt q e).2;omega),hr.lab q e,if_neg h2]⟩
 have new:∀{L:Nat × Nat × Nat}{t sz:Nat}{u:Value}{m:Nat}{cs:List Value},Xq w2 lab3 L w1.heap.size t sz u m cs->Xq (w2.setCell ⟨G',b*6,none⟩ vp) (fun q=>if q<w1.heap.size then (if ((lab q).1=2\/(lab q).1=4)/\(lab q).2.1=b then (9,0,0)else lab q)else lab3 q) L base t sz u m cs:=fun hr=>⟨Yn (YA hr.own (fun q e=>Below.heap_setCell _ _ _ _ (by have:=(hr.own.lt q e).1;show q≠G';omega))) (by have:=h.bs;omega),fun q e=>by
  show(if q<w1.heap.size then _ else _)=_;rw[if_neg (by have:=(hr.own.lt q e).1;omega),hr.lab q e]⟩
 have hbl:Xq w2 lab (1,0,0) base 43 6 (.slice (some ⟨G',0,none⟩) n c') n (Xy pv iv g):=by
  have:=h.fn.blks;rw[hnl]at this;exact⟨YA this.own (fun q e=>kb q (this.own.lt q e).2),this.lab⟩
 refine⟨hbl.thaw _,fun q=>if q<w1.heap.size then (if ((lab q).1=2\/(lab q).1=4)/\(lab q).2.1=b then (9,0,0)else lab q)else lab3 q,?_,?_,?_,?_,h.gg,⟨⟨?_,fun q e=>?_⟩,fun i hi=>?_,fun i hi=>?_,fun i hi j hj=>?_⟩,h.bs,fun q hq=>?_,fun q hq h0=>?_,fun q h0 h3=>?_⟩
 ·have:=h.gg
  exact((h.low.trans (hlow.mono hs0)).trans (hp.low.mono (by omega))).setCell (by show w.heap.size<=G';omega) _
 ·exact(h.box.keep (kb _ h.box.lt)).other (by have:=h.gg;omega)
 ·exact(h.res.keep (kb _ h.res.lt)).other (by have:=h.gg;omega)
 ·exact(h.gbx.keep (kb _ h.gbx.lt)).other (by have:=h.gg;omega)
 ·rw[List.length_set,hnl]
  have hset:=(hbl.set (b*6) vp).own;have e:Xy (fun i=>if i=b then vp else pv i) iv (g.set b ⟨ps,g[b].instrs,g[b].term⟩)=(Xy pv iv g).set (b*6) vp:=by
   unfold Xy;have:=Ye (f:=fun i (x:Xf)=>Tk (pv i) (iv i) x.term) (f':=fun i (x:Xf)=>Tk (if i=b then vp else pv i) (iv i) x.term) (sz:=6) (fun _ _=>rfl) 0 g b hb ⟨ps,g[b].instrs,g[b].term⟩ 0 vp (by omega) (by(try dsimp only);rw[Nat.zero_add,if_pos rfl];rfl) (fun j hj hne=>by(try dsimp only);rw[Nat.zero_add,if_neg hne]);rw[Nat.add_zero]at this;exact this
  rw[e];exact hset
 ·have e2:G'=q:=by injection e
  subst e2;show(if G' < w1.heap.size then _ else _)=_;rw[if_pos (by omega),hGl,if_neg (by simp)]
 ·by_cases e:i=b
  ·subst e
   simp only[List.getElem_set_self,if_pos];exact new hp.row
  ·simp only[List.getElem_set_ne (fun e2=>e e2.symm),if_neg e]
   exact old (h.fn.phis i (by simpa using hi)) (by simp) (by simp;omega)
 ·by_cases e:i=b
  ·subst e
   simp only[List.getElem_set_self];exact old (h.fn.ins i (by simpa using hi)) (by simp) (by simp)
  ·simp only[List.getElem_set_ne (fun e2=>e e2.symm)]
   exact old (h.fn.ins i (by simpa using hi)) (by simp) (by simp)
 ·by_cases e:i=b
  ·subst e
   simp only[List.getElem_set_self]at hj |-;simp only[if_pos];exact new (hp.args j hj)
  ·simp only[List.getElem_set_ne (fun e2=>e e2.symm)]at hj |-
   simp only[if_neg e];exact old (h.fn.args i (by simpa using hi) j hj) (by simp) (by simp;omega)
 ·have hq':w2.heap.size<=q:=by simpa [World.setCell]using hq
  show(if q<w1.heap.size then _ else _)=_;rw[if_neg (by omega)];exact hp.fr q hq'
 ·have h9:=h.old q hq h0
  show(if q<w1.heap.size then _ else _)=_;rw[if_pos (by omega),h9,if_neg (by simp)]
 ·have h9:=h.bxl q h0 h3
  have:=h.gg;show(if q<w1.heap.size then _ else _)=_;rw[if_pos (by omega),h9,if_neg (by simp)]
theorem T2S.keep{w wr w':World}{lab0 lab:Nat->Nat × Nat × Nat}{base v G n c G' c':Nat}{g:List Xf}{pv iv:Nat->Value}{av:Nat->Nat->Value}(h:T2S w wr lab0 lab base v G n c G' c' g pv iv av)(k:Below wr.heap.size wr w'):T2S w w' lab0 lab base v G n c G' c' g pv iv av:=⟨h.low.trans (k.mono h.low.size),h.box.keep (k.block _ h.box.lt),h.res.keep (k.block _ h.res.lt),h.gbx.keep (k.block _ h.gbx.lt),h.gg,h.fn.sp (⟨k.size,fun b _ h2 _=>⟨k.block b h2,rfl⟩,fun hf q hq=>hf q (Nat.le_trans k.size hq)⟩:XK wr w' lab lab base (fun _=>True)) 0 (fun _ _ _ _ _=>trivial) (Or.inl (fun _ _=>trivial)),h.bs,fun q hq=>h.fr q (Nat.le_trans k.size hq),h.old,h.bxl⟩
theorem T2S.drew{w wr:World}{lab0 lab:Nat->Nat × Nat × Nat}{base v G n c G' c':Nat}{g:List Xf}{pv iv:Nat->Value}{av:Nat->Nat->Value}(h:T2S w wr lab0 lab base v G n c G' c' g pv iv av):T2S w wr.drew lab0 lab base v G n c G' c' g pv iv av:=⟨h.low.drew,h.box,h.res,h.gbx,h.gg,h.fn.sp (⟨Nat.le_refl _,fun _ _ _ _=>⟨rfl,rfl⟩,fun h=>h⟩:XK wr wr.drew lab lab base (fun _=>True)) 0 (fun _ _ _ _ _=>trivial) (Or.inl (fun _ _=>trivial)),h.bs,h.fr,h.old,h.bxl⟩
theorem PhS.start(w:World)(b:Nat):PhS w (w.alloc (.cells #[] 46)) (fun q=>if q=w.heap.size then (2,b,0)else (0,0,0)) b (.slice (some ⟨w.heap.size,0,none⟩) 0 0) [] (fun _=>undef):=by
 refine⟨Xb (Below.refl _ _) _,⟨World.ownsRow_lit (base:=w.heap.size) (e:=46) (size:=2) w #[] 0 (by simp) (by simp) rfl,fun q e=>?_⟩,fun j hj=>absurd hj (by simp),fun q hq=>?_⟩
 ·have e2:w.heap.size=q:=by injection e
  show(if q=w.heap.size then _ else _)=_;rw[if_pos e2.symm]
 ·rw[World.size_alloc]at hq
  show(if q=w.heap.size then _ else _)=_;rw[if_neg (by omega)]
end Go.Proofs.YtkehcdfalcakmaaGreatDoor
namespace Go.Proofs.YtkehcdfalcakmaaGreatDoor
set_option maxHeartbeats 4000000
set_option maxRecDepth 100000
open Go.RowKit
theorem ZiE{Q:Exit->Act->World->Prop}(w1:World)(n gb G gc pc b:Nat)(wa na pa:Option Addr)(wl wcap nl ncap:Nat)(c0 c1 c2 c5 c6:Value)(hg1:w1.cell? ⟨gb,1,none⟩=some (.slice (some ⟨G,0,none⟩) n gc))(hgb:gb<w1.heap.size)(hg2:w1.cell? ⟨G,b*6,none⟩=some (.slice pa 0 pc))(hG:G<w1.heap.size)(hbn:b<n)(_hn:n<=11)(vp c12 c13 c14:Value)(lab0:Nat->Nat × Nat × Nat)(av0:Nat->Value)(tl:List Value)(wr:World)
 (hexit:∀(c11:Value)(tl:List Value)(w':World),tl.length=134->PhS w1 w' lab0 b vp [] av0->Q (.exit 4) ⟨(c0::c1::c2::.int .i64 ((n:Nat):Int)::.pointer (some ⟨gb,0,none⟩)::c5::c6::.int .i64 ((b:Nat):Int)::.slice wa wl wcap::.slice na nl ncap::vp::c11::c12::c13::c14::tl).toArray,[]⟩ w')
 (hl:tl.length=134) (h:Hid (PhS w1 wr lab0 b vp [] av0)) :
 Code.wp Tryz.prog (Code.loop tB3) Q ⟨(c0::c1::c2::.int .i64 ((n:Nat):Int)::.pointer (some ⟨gb,0,none⟩)::c5::c6::.int .i64 ((b:Nat):Int)::.slice wa wl wcap::.slice na nl ncap::vp::.int .i64 ((0:Nat):Int)::c12::c13::c14::tl).toArray,[]⟩ wr:=by
 have HX:=Xa hexit;clear hexit;refine wp_loop (fun a' wr=>a'=⟨(c0::c1::c2::.int .i64 ((n:Nat):Int)::.pointer (some ⟨gb,0,none⟩)::c5::c6::.int .i64 ((b:Nat):Int)::.slice wa wl wcap::.slice na nl ncap::vp::.int .i64 ((0:Nat):Int)::c12::c13::c14::tl).toArray,[]⟩/\Hid (PhS w1 wr lab0 b vp [] av0)) (fun _ _=>0) ⟨rfl,h⟩ ?_;clear h;rintro a' wr ⟨rfl,HS⟩
 conv=>arg 2;whnf
 obtain⟨f,rfl⟩:=K4 tl hl;clear hl;have x1:=(HS.low.cell (p:=⟨gb,1,none⟩) hgb).trans hg1;have x2:=(HS.low.cell (p:=⟨G,b*6,none⟩) hG).trans hg2
 go_wp2_with fail
 exact HX.out _ _ _ (by rfl) HS.out
structure T2 where
 b:Nat
 g:List Xf
 lab:Nat->Nat × Nat × Nat
 pv:Nat->Value
 iv:Nat->Value
 av:Nat->Nat->Value
 c8:Value
 c9:Value
 c10:Value
 c11:Value
 c12:Value
 c13:Value
 c14:Value
 tl:List Value
theorem tn2{Q:Exit->Act->World->Prop}(w:World)(v G n c G' c':Nat)(lab0:Nat->Nat × Nat × Nat)(base:Nat)(xs:List Xf)(c0 c5 c6:Value)(hQ:Hid (∀c (a:Act) t v w,Q (.panic c) (a.put (some t) v) w->Q (.panic c) a w))(hF:Hid (X8 w base w.heap.size (some ⟨G,0,none⟩) xs))(hn:Hid (n=xs.length))(hn2:n<=11)(ha:Hid (WJ xs))(hsm:Hid (JK xs))
 (hexit:∀(c8 c9 c10 c11 c12 c13 c14:Value)(lab:Nat->Nat × Nat × Nat)(pv iv:Nat->Value)(av:Nat->Nat->Value)(tl:List Value)(w':World),tl.length=134->T2S w w' lab0 lab base v G n c G' c' (YM xs) pv iv av->Q (.exit 2) ⟨(c0::.pointer (some ⟨w.heap.size,0,none⟩)::.pointer (some ⟨(w.heap.size+1),0,none⟩)::.int .i64 ((n:Nat):Int)::.pointer (some ⟨(w.heap.size+2),0,none⟩)::c5::c6::.int .i64 ((n:Nat):Int)::c8::c9::c10::c11::c12::c13::c14::tl).toArray,[]⟩ w')
 (c8 c9 c10 c11 c12 c13 c14:Value) (lab:Nat->Nat × Nat × Nat) (pv iv:Nat->Value) (av:Nat->Nat->Value) (tl:List Value) (wr:World) (hl:tl.length=134) (h:Hid (T2S w wr lab0 lab base v G n c G' c' (Y6 xs) pv iv av)) :
 Code.wp Tryz.prog (Code.loop tB2) Q ⟨(c0::.pointer (some ⟨w.heap.size,0,none⟩)::.pointer (some ⟨(w.heap.size+1),0,none⟩)::.int .i64 ((n:Nat):Int)::.pointer (some ⟨(w.heap.size+2),0,none⟩)::c5::c6::.int .i64 ((0:Nat):Int)::c8::c9::c10::c11::c12::c13::c14::tl).toArray,[]⟩ wr:=by
 have HX:=Xa hexit;clear hexit;refine wp_loop (fun a' wr=>∃x:T2,a'=⟨(c0::.pointer (some ⟨w.heap.size,0,none⟩)::.pointer (some ⟨(w.heap.size+1),0,none⟩)::.int .i64 ((n:Nat):Int)::.pointer (some ⟨(w.heap.size+2),0,none⟩)::c5::c6::.int .i64 ((x.b:Nat):Int)::x.c8::x.c9::x.c10::x.c11::x.c12::x.c13::x.c14::x.tl).toArray,[]⟩/\x.tl.length=134/\x.b<=n/\Hid (JT xs (n-x.b) x.b x.g=YM xs)/\Hid (x.g.length=n)/\Hid (∀j (h:j<x.g.length) (h':othN j n<xs.length),x.b<=j->x.g[j].phis=xs[othN j n].phis)/\Hid (T2S w wr lab0 x.lab base v G n c G' c' x.g x.pv x.iv x.av)) (fun a' _=>n-(intOf (a'.tmps.getD 7 undef)).toNat) ⟨⟨0,Y6 xs,lab,pv,iv,av,c8,c9,c10,c11,c12,c13,c14,tl⟩,rfl,hl,Nat.zero_le _,Xa (by rw[hn.out];rfl),Xa (by rw[WC];exact hn.symm),Xa (fun j hj hj' _=>by have e:=hn.out;subst e;rw[Uq hj hj']),h⟩ ?_;clear h hl;rintro a' wr ⟨⟨b,g,lab,pv,iv,av,c8,c9,c10,c11,c12,c13,c14,tl⟩,rfl,hl,hb,HE,HGL,HPH,HS⟩;dsimp only at hl hb HE HGL HPH HS |-
 conv=>arg 2;whnf
 obtain⟨f,rfl⟩:=K4 tl hl;clear hl;by_cases hlt:b<n
 ·have hltI:(b:Int)<n:=by omega
  have HOZ:Hid (Jo (b:Int) n=((othN b n:Nat):Int)):=Xa (V8 hlt);have HOL:Hid (othN b n<n):=Xa (TD hlt);have x0:wr.cell? ⟨w.heap.size,0,none⟩=some (.int .i64 (v:Int)):=Bx.cell HS.box rfl;have x1:wr.cell? ⟨w.heap.size,1,none⟩=some (.slice (some ⟨G,0,none⟩) n c):=Bx.cell HS.box rfl;have HBF:Hid (X8 wr.drew base w.heap.size (some ⟨G,0,none⟩) xs):=Xa (hF.keep HS.low.drew);have HSD:Hid (T2S w wr.drew lab0 lab base v G n c G' c' g pv iv av):=Xa HS.drew;have hws:w.heap.size<=wr.heap.size:=HS.low.size;have HBS:Hid (w.heap.size<wr.heap.size):=Xa HS.box.lt;obtain⟨was,hwas⟩:∃was,was=predsFrom xs 0 ((othN b n:Nat):Int):=⟨_,rfl⟩;have HWAS:=Xa hwas;have hwl11:was.length<=11:=by rw[hwas];have:=Jv xs 0 ((othN b n:Nat):Int);have:=hn.out;omega
  clear hwas
  go_upto_region 15 with fail
  go_cut [8] from 15 to 148 (fun c8 wz=>∃wa wcap,c8=.slice wa was.length wcap/\Hid (Below wr.heap.size wr wz/\Xh wz 0 wz.heap.size wa was))
  case first =>
   refine YZ (fun w'=>w'.cell? ⟨w.heap.size,0,none⟩=some (.int .i64 (v:Int))/\w'.cell? ⟨w.heap.size,1,none⟩=some (.slice (some ⟨G,0,none⟩) n c)) (fun hHeld=>?_);refine XI 1 ?_;refine XI 2 ?_;refine wpAnyH_ready (rs:=[0,3]) (by kernel_rfl) (by simp) ?_;refine(AllReadyH.cons rfl (fun K hK=>?_) (AllReadyH.cons rfl (fun K hK=>?_) AllReadyH.nil))
   focus
    go_simp;refine hK _ _ (by first | with_reducible exact hHeld | ((try dsimp only);go_keep)) (fun hHeld=>?_);clear hK
    try simp only[Act.put,xA,xB,xC,xD,xE,xF]
    refine Xw 3 (fun K hK=>?_);go_simp
    go_at_call 90
    refine(ZP (b:Int) n _ (by omega) (by omega) (by omega)).mono ?_;rintro e w1 ⟨rfl,hw1⟩;subst hw1;rw[HOZ.out];refine hK _ _ hHeld (fun hHeld=>?_);clear hK
   rotate_left
   focus
    go_simp
    go_at_call 90
    refine(ZP (b:Int) n _ (by omega) (by omega) (by omega)).mono ?_;rintro e w1 ⟨rfl,hw1⟩;subst hw1;rw[HOZ.out];refine hK _ _ hHeld (fun hHeld=>?_);clear hK
    try simp only[Act.put,xA,xB,xC,xD,xE,xF]
    refine Xw 0 (fun K hK=>?_);go_simp;refine hK _ _ (by first | with_reducible exact hHeld | ((try dsimp only);go_keep)) (fun hHeld=>?_);clear hK
   all_goals (
    refine Xw 4 (fun K hK=>?_);go_simp;refine(ZX (v:Int) (some ⟨G,0,none⟩) n c ((othN b n:Nat):Int) xs base w.heap.size wr.drew HBF hn (by omega) hws).mono ?_;rw[<-HWAS.out];rintro e w2 ⟨wa,wcap,rfl,hb2,hi2⟩;have HR2:Hid (Below wr.heap.size wr w2/\Xh w2 0 w2.heap.size wa was):=Xa ⟨((Below.refl _ _).drew).trans hb2,hi2.mono (Nat.zero_le _) (Nat.le_refl _)⟩;have KK:∀q o,q<=w.heap.size->w2.cell? ⟨q,o,none⟩=wr.cell? ⟨q,o,none⟩:=fun q o hq=>HR2.1.cell (p:=⟨q,o,none⟩) (by have:=HBS.out;show q<wr.heap.size;omega)
    refine hK _ _ ⟨(KK _ _ (Nat.le_refl _)).trans x0,(KK _ _ (Nat.le_refl _)).trans x1⟩ (fun hHeld=>?_);clear hK KK
    try simp only[Act.put,xA,xB,xC,xD,xE,xF]
    refine XI 5 ?_;refine Y7 ?_;clear hHeld hb2 hi2
    go_wp2_with fail
    go_meet;exact⟨_,_,rfl,HR2⟩)
  case rest =>
   obtain⟨wa,wcap,rfl,HW1⟩:=hcut;have HS1:=Xa (HS.keep HW1.1);have HWI:=Xa HW1.2;clear x0 x1 HBF HSD HS HW1;generalize wc=w1 at *;clear hws;have hws:w.heap.size<=w1.heap.size:=HS1.low.size;have y0:w1.cell? ⟨w.heap.size+2,0,none⟩=some (.int .i64 (v:Int)):=Bx.cell HS1.gbx rfl;have y1:w1.cell? ⟨w.heap.size+2,1,none⟩=some (.slice (some ⟨G',0,none⟩) n c'):=Bx.cell HS1.gbx rfl;obtain⟨now,hnow⟩:∃now,now=predsFrom g 0 (b:Int):=⟨_,rfl⟩;have HNOW:=Xa hnow;have hnl11:now.length<=11:=by rw[hnow];have:=Jv g 0 (b:Int);have:=HGL.out;omega
   clear hnow;have HNZ:Hid (∀z∈now,0<=z/\z<=1000):=Xa (by
    intro z hz;rw[HNOW.out]at hz;obtain⟨i,hi,e,_⟩:=(Ta _ _ _ _).1 hz;have:=HGL.out;omega)
   go_wp2_with fail
   refine(ZX (v:Int) (some ⟨G',0,none⟩) n c' (b:Int) g base w1.heap.size w1 (Xa HS1.fn.at_) (Xa HGL.symm) (by omega) (Nat.le_refl _)).mono ?_;rw[<-HNOW.out];rintro e w2 ⟨na,ncap,rfl,hb2,hi2⟩;have HS2:=Xa (HS1.keep hb2);have HWI2:Hid (Xh w2 0 w2.heap.size wa was):=Xa ((HWI.keep hb2).mono (Nat.zero_le _) hb2.size);have HNI2:Hid (Xh w2 0 w2.heap.size na now):=Xa (hi2.mono (Nat.zero_le _) (Nat.le_refl _));clear hb2 hi2 HS1 HWI y0 y1
   go_wp2_with fail
   have hgl:b<g.length:=by rw[HGL.out];exact hlt
   have HP0:Hid (PhS w2 (w2.alloc (.cells #[] 46)) (fun q=>if q=w2.heap.size then (2,b,0)else (0,0,0)) b (.slice (some ⟨w2.heap.size,0,none⟩) 0 0) [] (fun _=>undef)):=Xa (PhS.start w2 b);have hox:othN b n<xs.length:=by rw[<-hn.out];exact HOL.out
   have HPE:=Xa (HPH.out b hgl hox (Nat.le_refl _));have y1:w2.cell? ⟨w.heap.size+2,1,none⟩=some (.slice (some ⟨G',0,none⟩) n c'):=Bx.cell HS2.gbx rfl;have hgbl:=HS2.gbx.lt;have hGl:=(HS2.fn.blks.own.lt G' rfl).2;obtain⟨p0,-,-⟩:=HS2.fn.cells hgl;obtain⟨pa,pc,hpv⟩:=(HS2.fn.phis b hgl).form;have HPV:=Xa hpv;rw[hpv]at p0;have HNXT:Hid (∀lab3 vp av3 W,PhS w2 W lab3 b vp (Yq n was now g[b].phis) av3->W.frozen? ⟨G',b*6,none⟩=false/\∃g2 lab2 pv2 av2,JT xs (n-(b+1)) (b+1) g2=YM xs/\g2.length=n/\(∀j (h:j<g2.length) (h':othN j n<xs.length),b+1<=j->g2[j].phis=xs[othN j n].phis)/\T2S w (W.setCell ⟨G',b*6,none⟩ vp) lab0 lab2 base v G n c G' c' g2 pv2 iv av2):=Xa (fun lab3 vp av3 W hW=>by
    obtain⟨hz,lab2,ht⟩:=HS2.step hgl (Below.refl _ _) hW;refine⟨hz,_,lab2,_,_,?_,?_,?_,ht⟩
    ·have h0:=HE.out
     rw[show n-b=(n-(b+1))+1 by omega,JT,show g.getD b XL=g[b] by simp[hgl],<-hn.out,<-HNOW.out,<-HWAS.out]at h0;exact h0
    ·rw[List.length_set];exact HGL.out
    ·intro j hj hj' hjb
     rw[List.getElem_set_ne (by omega)];exact HPH.out j (by simpa using hj) hj' (by omega))
   have HNX2:Hid (∀vp W,(∃lab3 av3,PhS w2 W lab3 b vp (Yq n was now g[b].phis) av3)->∃pa2 pl2 pc2,vp=.slice pa2 pl2 pc2):=Xa (fun vp W h=>by
    obtain⟨l,a,h⟩:=h;obtain⟨a,c,e⟩:=h.row.form;exact⟨a,_,c,e⟩)
   have HLOW:=Xa (fun W (hW:Below w2.heap.size w2 W)=>(hW.cell (p:=⟨w.heap.size+2,1,none⟩) hgbl).trans y1);have HLW2:=Xa (fun W (hW:Below w2.heap.size w2 W)=>(hW.cell (p:=⟨G',b*6,none⟩) hGl).trans p0);by_cases hnp:g[b].phis.length=0
   ·have hge:g[b].phis=[]:=List.eq_nil_of_length_eq_zero hnp
    rw[hnp]at p0;refine ZiE w2 n (w.heap.size+2) G' c' pc b wa na pa was.length wcap now.length ncap _ _ _ _ _ y1 hgbl p0 hGl hlt hn2 _ _ _ _ _ _ _ _ ?_ (by rfl) HP0;intro c11 tl w' hl hP;have HZE:Hid (Yq n was now g[b].phis=[]):=Xa (by rw[hge];rfl);rw[<-HZE.out]at hP;clear HZE;obtain⟨f,rfl⟩:=K4 tl hl;clear hl;have z1:=HLOW.out _ hP.low;have z2:=HLW2.out _ hP.low;obtain⟨hz,g2,lab2,pv2,av2,e1,e2,e3,ht⟩:=HNXT.out _ _ _ _ hP;have HT:=Xa ht;have HE1:=Xa e1;have HE2:=Xa e2;have HE3:=Xa e3;clear ht e1 e2 e3 hP y1 p0 HP0
    go_wp2_with fail
    exact⟨⟨⟨b+1,g2,lab2,pv2,iv,av2,_,_,_,_,_,_,_,_⟩,rfl,rfl,(by show b+1<=n;omega),HE1,HE2,HE3,HT⟩,by simp[intOf];omega⟩
   ·obtain⟨gp,c2,hpg⟩:=(HS2.fn.phis b hgl).got (by omega)
    rw[hpv]at hpg;injection hpg with e1 _ e3;subst e1 e3;have hgpl:=(HS2.fn.phis b hgl).own.lt gp (by rw[hpv];rfl);have HPS:Hid (∀j (h:j<g[b].phis.length),w2.cell? ⟨gp,j*2,none⟩=some (.int .i64 g[b].phis[j].dst)/\∃aa ac,w2.cell? ⟨gp,j*2+1,none⟩=some (.slice aa g[b].phis[j].args.length ac)/\Xh w2 0 w2.heap.size aa g[b].phis[j].args/\was.length<=g[b].phis[j].args.length):=Xa (fun j hj=>by
     have h1:=HS2.fn.phiCells hgl hj hpv;have h2:=HS2.fn.args b hgl j hj;obtain⟨aa,ac,e⟩:=h2.form;rw[e]at h1 h2;refine⟨h1.1,aa,ac,h1.2,(h2.ints).mono (Nat.zero_le _) (Nat.le_refl _),?_⟩;have h3:g[b].phis[j]∈xs[othN b n].phis:=by rw[<-HPE.out];exact List.getElem_mem hj
     rw[ha.out _ hox _ h3,<-HWAS.out];exact Nat.le_refl _)
    have hnp2:g[b].phis.length<=1000:=by rw[HPE.out];exact(hsm.out _ (List.getElem_mem hox)).1
    refine tn3 w2 0 w2.heap.size n (w.heap.size+2) G' c' gp g[b].phis.length pc b wa na was.length wcap now.length ncap was now g[b].phis _ _ _ _ _ (by exact Xa (fun c a t v w h=>hQ.out c a t v w h)) HWI2 (Xa rfl) HNI2 (Xa rfl) (Nat.le_refl _) y1 hgbl p0 hGl hgpl.2 (Xa rfl) HPS hlt hn2 HNZ ⟨hnl11,hwl11⟩ hnp2 ?_ _ _ _ _ _ _ _ _ (by rfl) HP0;intro vp c11 c12 c13 c14 lab3 av3 tl w' hl hP;obtain⟨f,rfl⟩:=K4 tl hl;clear hl;obtain⟨pa2,pl2,pc2,rfl⟩:=HNX2.out _ _ ⟨_,_,hP⟩;have z1:=HLOW.out _ hP.low;have z2:=HLW2.out _ hP.low;obtain⟨hz,g2,lab2,pv2,av2,e1,e2,e3,ht⟩:=HNXT.out _ _ _ _ hP;have HT:=Xa ht;have HE1:=Xa e1;have HE2:=Xa e2;have HE3:=Xa e3;clear ht e1 e2 e3 hP y1 p0 HP0
    go_wp2_with fail
    exact⟨⟨⟨b+1,g2,lab2,pv2,iv,av2,_,_,_,_,_,_,_,_⟩,⟨(by show(b:Int)+1=((b+1:Nat):Int);omega),rfl,rfl,rfl,rfl,rfl,rfl,rfl,rfl⟩,rfl,(by show b+1<=n;omega),HE1,HE2,HE3,HT⟩,by simp[intOf];omega⟩
 ·have hltI:¬(b:Int)<n:=by omega
  have hbe:b=n:=by omega
  have HE2:Hid (g=YM xs):=Xa (by
   have:=HE.out;rw[hbe,Nat.sub_self]at this;exact this)
  subst hbe;have HS2:=Xa HS.out;rw[HE2.out]at HS2;clear HS HE HPH
  go_wp2_with fail
  exact HX.out _ _ _ _ _ _ _ _ _ _ _ _ _ (by rfl) HS2.out
theorem Zfy:Zhh:=by
 intro v G n c xs lab base pv iv av w hF hn hbs hfr ha hsm htg hn1 hn2;have HB0:Hid (T1S w (((w.alloc (.cells #[.int .i64 (v:Int),.slice (some ⟨G,0,none⟩) n c] 25)).alloc (.cells #[.int .i64 0,.slice none 0 0] 25)).alloc (.cells #[.int .i64 (v:Int),.slice none 0 0] 25)) v G n c pv iv xs (.slice none 0 0) 0):=Xa (by
  refine⟨Xb (Xb (Xb (Below.refl _ _) _) _) _,((Bx.new _ _ _).box _).box _,?_,?_,World.ownsRow_nil _ _ _ _⟩
  ·have:=(Bx.new (w.alloc (.cells #[.int .i64 (v:Int),.slice (some ⟨G,0,none⟩) n c] 25)) #[.int .i64 0,.slice none 0 0] 25).box (.cells #[.int .i64 (v:Int),.slice none 0 0] 25)
   rwa[World.size_alloc]at this
  ·have:=Bx.new ((w.alloc (.cells #[.int .i64 (v:Int),.slice (some ⟨G,0,none⟩) n c] 25)).alloc (.cells #[.int .i64 0,.slice none 0 0] 25)) #[.int .i64 (v:Int),.slice none 0 0] 25
   rwa[World.size_alloc,World.size_alloc]at this)
 go_enter Tryz.func75,Tryz.ntmps75
 go_wp2_with fail
 refine tn1 w v G n c lab base xs pv iv av _ _ _ _ _ _ _ _ _ (by exact Xa (fun c a t v w h=>h)) hF hn hn2 htg ?_ _ _ _ _ (by rfl) HB0;intro vg c6 tl w1 hl h1;obtain⟨f,rfl⟩:=K4 tl hl;clear hl HB0;obtain⟨G',c',lab',rfl,h2⟩:=h1.turn hF.out hn.out hbs hn1;have HS:=Xa h2;clear h1 h2
 go_wp2_with fail
 refine tn2 w v G n c G' c' lab base xs _ _ _ (by exact Xa (fun c a t v w h=>h)) (Xa hF.at_) hn hn2 ha hsm ?_ _ _ _ _ _ _ _ _ _ _ _ _ _ (by rfl) HS;intro c8 c9 c10 c11 c12 c13 c14 lab2 pv2 iv2 av2 tl w2 hl h2;obtain⟨f,rfl⟩:=K4 tl hl;clear hl HS;have HT:=Xa h2;clear h2;have f0:w2.cell? ⟨w.heap.size+2,0,none⟩=some (.int .i64 (v:Int)):=Bx.cell HT.gbx rfl;have f1:w2.cell? ⟨w.heap.size+2,1,none⟩=some (.slice (some ⟨G',0,none⟩) n c'):=Bx.cell HT.gbx rfl;have r0:w2.cell? ⟨w.heap.size+1,0,none⟩=some (.int .i64 0):=Bx.cell HT.res rfl;have r1:w2.cell? ⟨w.heap.size+1,1,none⟩=some (.slice none 0 0):=Bx.cell HT.res rfl;have rz:=Bx.thaw HT.res;go_wp2;have hbx:∀q,(lab2 q).1≠0->q≠w.heap.size+1:=fun q h0 e=>h0 (by rw[e,HT.bxl _ (by omega) (by omega)])
 have k1:XK w2 ((w2.setCell ⟨w.heap.size+1,0,none⟩ (.int .i64 (v:Int))).setCell ⟨w.heap.size+1,1,none⟩ (.slice (some ⟨G',0,none⟩) n c')) lab2 lab2 base (fun b=>b≠w.heap.size+1):=((XK.put _ _ _).trans (XK.put _ _ _)).weak (fun _ hb=>⟨hb,hb⟩);refine bodyPost_ret (v:=.agg #[.int .i64 (v:Int),.slice (some ⟨G',0,none⟩) n c']) (by simp[results,Tryz.results75,go_sem,r0,r1]) rfl ⟨lab2,G',c',pv2,iv2,av2,rfl,?_,?_,?_,?_⟩
 ·exact(HT.low.setCell (by show w.heap.size<=w.heap.size+1;omega) _).setCell (by show w.heap.size<=w.heap.size+1;omega) _
 ·exact HT.fn.sp k1 0 (fun b h1 _ _ _=>hbx b h1) (Or.inl (fun b e=>hbx b (by rcases e with e | e<;>rw[e]<;>simp)))
 ·intro b hb
  exact HT.fr b (by simpa [World.setCell]using hb)
 ·exact HT.old
end Go.Proofs.YtkehcdfalcakmaaGreatDoor
