import Derived.Test.YtkehcdfalcakmaaGreatDoorDGc
namespace Go.Proofs.YtkehcdfalcakmaaGreatDoor
set_option maxHeartbeats 8000000
set_option maxRecDepth 100000
open Go.RowKit
structure X6 where
 k:Nat
 acc:List Int
 s:Sr
 tl:List Value
theorem lp6{Q:Exit->Act->World->Prop}(w:World)(sb B:Nat)(fb vals G c:Nat)(xs:List Xf)(ge ne ce:Nat)(ends:List (List Int))(vi:Value)(ids:List Int)(pa:Option Addr)(pl pcap:Nat)(preds:List Int)(i j N:Nat)(s0:Sr)(c1 c2 c3 c4 c5 c6 c8 c9 c11 c12 c13 c14 c15 c16 c17 c18 c19:Value)(hQ:Hid (∀c (a:Act) t v w,Q (.panic c) (a.put (some t) v) w->Q (.panic c) a w))(hi:i<xs.length)(hj:j<xs[i].phis.length)(hN:Hid (xs.length=N/\ends.length=ne/\preds.length=pl))(hNb:N<=11/\pl<=1000)(ha0:Hid (xs[i].phis[j].args.length<=1000))(hpr:Hid (∀q∈preds,∃d:Nat,q=(d:Int)/\d<ne))(hev:Hid (∀e∈ends,0<e.length/\e.length<=4000))
 (hexit:∀(s:Sr)(tl:List Value)(w':World),tl.length=251->s=(Z4 ends preds s0 xs[i].phis[j].args).2->(∃lab pv iv av ev,J6 w w' lab sb B s fb vals G c (xs.set i (xs[i].setPhi j ⟨xs[i].phis[j].dst,(Z4 ends preds s0 xs[i].phis[j].args).1⟩)) pv iv av (.slice (some ⟨ge,0,none⟩) ne ce) ev ends vi ids/\PrL w w' lab pa preds)->Q (.exit 10) ⟨(.pointer (some ⟨sb,0,none⟩)::c1::c2::c3::c4::c5::c6::.pointer (some ⟨fb,0,none⟩)::c8::c9::.slice (some ⟨ge,0,none⟩) ne ce::c11::c12::c13::c14::c15::c16::c17::c18::c19::.int .i64 ((i:Nat):Int)::.slice pa pl pcap::.int .i64 ((j:Nat):Int)::.int .i64 ((pl:Nat):Int)::tl).toArray,[]⟩ w')
 (tl:List Value) (wr:World) (hl:tl.length=251) (h:Hid (∃lab pv iv av ev,J6 w wr lab sb B s0 fb vals G c (xs.set i (xs[i].setPhi j ⟨xs[i].phis[j].dst,xs[i].phis[j].args⟩)) pv iv av (.slice (some ⟨ge,0,none⟩) ne ce) ev ends vi ids/\PrL w wr lab pa preds)) :
 Code.wp Tryz.prog (Code.loop gB6) Q ⟨(.pointer (some ⟨sb,0,none⟩)::c1::c2::c3::c4::c5::c6::.pointer (some ⟨fb,0,none⟩)::c8::c9::.slice (some ⟨ge,0,none⟩) ne ce::c11::c12::c13::c14::c15::c16::c17::c18::c19::.int .i64 ((i:Nat):Int)::.slice pa pl pcap::.int .i64 ((j:Nat):Int)::.int .i64 ((0:Nat):Int)::tl).toArray,[]⟩ wr:=by
 have HX:=Xa hexit;clear hexit;obtain⟨j0,hj0,hy0,hy1,hy2⟩:=X0 Tryz.info2';refine wp_loop (fun a' wr=>∃x:X6,a'=⟨(.pointer (some ⟨sb,0,none⟩)::c1::c2::c3::c4::c5::c6::.pointer (some ⟨fb,0,none⟩)::c8::c9::.slice (some ⟨ge,0,none⟩) ne ce::c11::c12::c13::c14::c15::c16::c17::c18::c19::.int .i64 ((i:Nat):Int)::.slice pa pl pcap::.int .i64 ((j:Nat):Int)::.int .i64 ((x.k:Nat):Int)::x.tl).toArray,[]⟩/\x.tl.length=251/\x.k<=pl/\Hid (Z4 ends (preds.drop x.k) x.s x.acc=Z4 ends preds s0 xs[i].phis[j].args/\x.acc.length<=1000+x.k)/\Hid (∃lab pv iv av ev,J6 w wr lab sb B x.s fb vals G c (xs.set i (xs[i].setPhi j ⟨xs[i].phis[j].dst,x.acc⟩)) pv iv av (.slice (some ⟨ge,0,none⟩) ne ce) ev ends vi ids/\PrL w wr lab pa preds)) (fun a' _=>pl-(intOf (a'.tmps.getD 23 undef)).toNat) ⟨⟨0,xs[i].phis[j].args,s0,tl⟩,rfl,hl,Nat.zero_le _,Xa ⟨by rw[List.drop_zero],by have:=ha0.out;show xs[i].phis[j].args.length<=1000+0;omega⟩,h⟩ ?_;clear h hl ha0;rintro a' wr ⟨⟨k,acc,s,tl⟩,rfl,hl,hk,HE,HS⟩;dsimp only at hl hk HE HS |-
 conv=>arg 2;whnf
 obtain⟨f,rfl⟩:=spr tl hl;clear hl;by_cases hlt:k<pl
 ·have hltI:(k:Int)<pl:=by omega
  have hkp:k<preds.length:=by have:=hN.out;omega
  obtain⟨lab,pv,iv,av,ev,hF,hP⟩:=HS.out;obtain⟨bp,op,epa,hbl,hbb,hbc⟩:=hP k hkp;obtain⟨d,hd,hdl0⟩:=hpr.out preds[k] (List.getElem_mem hkp);have hdl:d<ends.length:=by have:=hN.out;omega
  subst epa;have HQC:Hid (∀lab W,PrL w W lab (some ⟨bp,op,none⟩) preds->W.cell? ⟨bp,op+k,none⟩=some (.int .i64 (d:Int))):=Xa (fun lab W hp=>by
   obtain⟨b',o',e,_,_,hc⟩:=hp k hkp;cases e;rw[<-hd];exact hc)
  have hi':i<(xs.set i (xs[i].setPhi j ⟨xs[i].phis[j].dst,acc⟩)).length:=by simpa using hi
  have hxe:(xs.set i (xs[i].setPhi j ⟨xs[i].phis[j].dst,acc⟩))[i]=xs[i].setPhi j ⟨xs[i].phis[j].dst,acc⟩:=Xe _ _ _ _;have hj':j<(xs.set i (xs[i].setPhi j ⟨xs[i].phis[j].dst,acc⟩))[i].phis.length:=by rw[hxe];simpa [Xf.setPhi]using hj
  have hXl:(xs.set i (xs[i].setPhi j ⟨xs[i].phis[j].dst,acc⟩)).length=N:=by rw[List.length_set];exact hN.1
  have hxa:((xs.set i (xs[i].setPhi j ⟨xs[i].phis[j].dst,acc⟩))[i].phis[j]).args=acc:=by simp only[Xf.setPhi,Xe]
  have HXD:Hid (((xs.set i (xs[i].setPhi j ⟨xs[i].phis[j].dst,acc⟩))[i].phis[j]).dst=xs[i].phis[j].dst):=Xa (by simp only[Xf.setPhi,Xe]);obtain⟨g,cp,hpv0⟩:=(hF.fn.phis i hi').got (by omega);obtain⟨np,hnp⟩:∃np,np=(xs.set i (xs[i].setPhi j ⟨xs[i].phis[j].dst,acc⟩))[i].phis.length:=⟨_,rfl⟩;rw[<-hnp]at hpv0;have hpv:=hpv0;obtain⟨aa,ac,hav0⟩:=(hF.fn.args i hi' j hj').form;obtain⟨al,hal⟩:∃al,al=((xs.set i (xs[i].setPhi j ⟨xs[i].phis[j].dst,acc⟩))[i].phis[j]).args.length:=⟨_,rfl⟩;rw[<-hal]at hav0;have hav:=hav0;obtain⟨ea,ec,hev0⟩:=(hF.evs d hdl).form;obtain⟨el,hel0⟩:∃el,el=ends[d].length:=⟨_,rfl⟩;rw[<-hel0]at hev0;have hevd:=hev0;obtain⟨X3,hX3⟩:∃X,X=nextP s 3:=⟨_,rfl⟩;obtain⟨r,s1⟩:=X3;have hrs:=hX3.symm;obtain⟨X4,hX4⟩:∃X,X=Yu s1 ends[d] (r != 0):=⟨_,rfl⟩;obtain⟨xn,s2⟩:=X4;have hrs2:=hX4.symm;clear hX3 hX4;have HNX:Hid (Z4 ends (preds.drop (k+1)) s2 (acc++[xn])=Z4 ends preds s0 xs[i].phis[j].args/\(acc++[xn]).length<=1000+(k+1)):=Xa (by
   have h1:=HE.out;rw[List.drop_eq_getElem_cons hkp,Z4,hd,Int.toNat_natCast,show ends.getD d []=ends[d] by simp[hdl],hrs]at h1;dsimp only at h1;rw[hrs2]at h1;exact⟨h1.1,by rw[List.length_append];show acc.length+1<=_;omega⟩)
  have HRV:Hid (∀W sx,J6 w W lab sb B sx fb vals G c (xs.set i (xs[i].setPhi j ⟨xs[i].phis[j].dst,acc⟩)) pv iv av (.slice (some ⟨ge,0,none⟩) ne ce) ev ends vi ids->Xh W w.heap.size W.heap.size ea ends[d]):=Xa (fun W sx hh=>by
   have:=hh.evs d hdl;rw[hevd]at this;exact this.ints)
  have HRA:Hid (∀W sx,J6 w W lab sb B sx fb vals G c (xs.set i (xs[i].setPhi j ⟨xs[i].phis[j].dst,acc⟩)) pv iv av (.slice (some ⟨ge,0,none⟩) ne ce) ev ends vi ids->W.ownsRow w.heap.size 2 1 (.slice aa al ac) acc.length (Xo acc)):=Xa (fun W sx hh=>by
   have:=(hh.fn.args i hi' j hj').own;rw[hav,hxa]at this;exact this)
  have HGB:Hid (∀W sx,J6 w W lab sb B sx fb vals G c (xs.set i (xs[i].setPhi j ⟨xs[i].phis[j].dst,acc⟩)) pv iv av (.slice (some ⟨ge,0,none⟩) ne ce) ev ends vi ids->w.heap.size<=g/\g<W.heap.size):=Xa (fun W sx hh=>by
   have:=hh.fn.phis i hi';rw[hpv]at this;exact this.own.lt g rfl)
  have HXS:Hid (((xs.set i (xs[i].setPhi j ⟨xs[i].phis[j].dst,acc⟩))).set i ((xs.set i (xs[i].setPhi j ⟨xs[i].phis[j].dst,acc⟩))[i].setPhi j ⟨((xs.set i (xs[i].setPhi j ⟨xs[i].phis[j].dst,acc⟩))[i].phis[j]).dst,((xs.set i (xs[i].setPhi j ⟨xs[i].phis[j].dst,acc⟩))[i].phis[j]).args++[xn]⟩)=(xs.set i (xs[i].setPhi j ⟨xs[i].phis[j].dst,(acc++[xn])⟩))):=Xa (by
   rw[HXD.out,hxa,hxe,List.set_set];simp[Xf.setPhi])
  have HAL:Hid (acc.length<=2000):=Xa (by have:=HE.2;omega);have HEL:Hid (el=ends[d].length):=Xa hel0;have hel:el<=5000:=by have:=hev.out _ (List.getElem_mem hdl);omega
  have HDK:Hid (some (Value.int .i64 (d:Int))=some (Value.int .i64 preds[k])):=Xa (by rw[hd]);have hsbw:sb<w.heap.size:=hF.lt;have hjn:j<np:=by omega
  have hiN:i<N:=by have:=hN.out;omega
  have hdn:d<ne:=hdl0;obtain⟨x1,x2,x3,x4⟩:=hF.facts hi' hj' hpv rfl hdl;rw[hXl]at x1;rw[hav]at x3;rw[hevd]at x4;have x5:wr.cell? ⟨bp,op+k,none⟩=some (.int .i64 (d:Int)):=by rw[<-hd];exact hbc
  have HFd:Hid (J6 w wr.drew lab sb B s fb vals G c (xs.set i (xs[i].setPhi j ⟨xs[i].phis[j].dst,acc⟩)) pv iv av (.slice (some ⟨ge,0,none⟩) ne ce) ev ends vi ids):=Xa (hF.belowF (Below.refl _ _).drew);have HQd:Hid (PrL w wr.drew lab (some ⟨bp,op,none⟩) preds):=Xa hP;clear hF hP HS hpv0 hav0 hev0 hbc hbb hbl hel0 hd hal hnp
  go_wp2_with fail
  refine YZ (fun w'=>w'.cell? ⟨fb,1,none⟩=some (.slice (some ⟨G,0,none⟩) N c)/\w'.cell? ⟨G,i*6,none⟩=some (.slice (some ⟨g,0,none⟩) np cp)/\w'.cell? ⟨bp,op+k,none⟩=some (.int .i64 (d:Int))/\w'.cell? ⟨ge,d,none⟩=some (.slice ea el ec)) (fun hHeld=>?_);refine XI 0 ?_;refine XI 1 ?_;refine XI 2 ?_;refine XI 3 ?_;refine XI 4 ?_;refine XI 5 ?_;refine XI 6 ?_;refine XI 7 ?_;refine XI 8 ?_;refine XI 9 ?_;refine XI 10 ?_;refine XI 11 ?_;refine XI 12 ?_;refine XI 13 ?_;refine XI 14 ?_;refine XI 15 ?_;refine XI 17 ?_;refine XI 18 ?_;refine XI 19 ?_;refine XI 20 ?_;refine XI 21 ?_;refine XI 22 ?_;refine XI 23 ?_;refine XI 24 ?_;refine XI 25 ?_;refine XI 26 ?_;refine wpAnyH_ready (rs:=[16,27]) (by kernel_rfl) (by simp) ?_;refine(AllReadyH.cons rfl (fun K hK=>?_) (AllReadyH.cons rfl (fun K hK=>?_) AllReadyH.nil))
  focus
   go_simp;refine hK _ _ (by first | with_reducible exact hHeld | ((try dsimp only);go_keep)) (fun hHeld=>?_);clear hK
   try simp only[Act.put,xA,xB,xC,xD,xE,xF]
   refine Xw 27 (fun K hK=>?_);go_simp
   go_at_call 30
   refine(Xv sb B s 3 _ (Xa HFd.dr) (by omega) (by omega)).mono ?_;rintro e w1 ⟨rfl,hd,hg⟩;rw[hrs]at hd |-;dsimp only at hd |-;have HF1:=Xa (HFd.call hg hd);have HQ1:=Xa (HQd.sp (XK.grown hg HFd.lt) (fun _ _ _=>trivial));obtain⟨y1,y2,y3,y4⟩:=HF1.facts hi' hj' hpv rfl hdl;rw[hXl]at y1;rw[hav]at y3;rw[hevd]at y4;have y5:w1.cell? ⟨bp,op+k,none⟩=some (.int .i64 (d:Int)):=HQC.out _ _ HQ1.out;clear hd hg;refine hK _ _ ⟨y1,y2,y5,y4⟩ (fun hHeld=>?_);clear hK;refine XI 28 ?_;refine Xw 29 (fun K hK=>?_);go_simp
   go_at_call 74
   have HIV:=Xa (HRV.out _ _ HF1.out);refine(Jp sb B s1 ea el ec ends[d] w.heap.size w1.heap.size (r != 0) w1 (Xa HF1.dr) HIV HEL hel hsbw (Nat.le_refl _)).mono ?_;rintro e w2 ⟨rfl,hd,hg⟩;rw[hrs2]at hd |-;dsimp only at hd |-;have HF2:=Xa (HF1.call hg hd);have HQ2:=Xa (HQ1.sp (XK.grown hg HF1.lt) (fun _ _ _=>trivial));obtain⟨z1,z2,z3,z4⟩:=HF2.facts hi' hj' hpv rfl hdl;rw[hXl]at z1;rw[hav]at z3;rw[hevd]at z4;have z5:w2.cell? ⟨bp,op+k,none⟩=some (.int .i64 (d:Int)):=HQC.out _ _ HQ2.out;have hz2:=HF2.gr.size;have hgl2:g<w2.heap.size:=(HGB.out _ _ HF2.out).2;clear hd hg;refine hK _ _ ⟨z1,z2,z5,z4⟩ (fun hHeld=>?_);clear hK;refine Xw 30 (fun K hK=>?_);go_simp;refine hK _ _ (by first | with_reducible exact hHeld | ((try dsimp only);go_keep)) (fun hHeld=>?_);clear hK
  rotate_left
  focus
   go_simp
   go_at_call 30
   refine(Xv sb B s 3 _ (Xa HFd.dr) (by omega) (by omega)).mono ?_;rintro e w1 ⟨rfl,hd,hg⟩;rw[hrs]at hd |-;dsimp only at hd |-;have HF1:=Xa (HFd.call hg hd);have HQ1:=Xa (HQd.sp (XK.grown hg HFd.lt) (fun _ _ _=>trivial));obtain⟨y1,y2,y3,y4⟩:=HF1.facts hi' hj' hpv rfl hdl;rw[hXl]at y1;rw[hav]at y3;rw[hevd]at y4;have y5:w1.cell? ⟨bp,op+k,none⟩=some (.int .i64 (d:Int)):=HQC.out _ _ HQ1.out;clear hd hg;refine hK _ _ ⟨y1,y2,y5,y4⟩ (fun hHeld=>?_);clear hK
   try simp only[Act.put,xA,xB,xC,xD,xE,xF]
   refine XI 28 ?_;refine wpAnyH_ready (rs:=[16,29]) (by kernel_rfl) (by simp) ?_;refine(AllReadyH.cons rfl (fun K hK=>?_) (AllReadyH.cons rfl (fun K hK=>?_) AllReadyH.nil))
  focus
   go_simp;refine hK _ _ (by first | with_reducible exact hHeld | ((try dsimp only);go_keep)) (fun hHeld=>?_);clear hK
   try simp only[Act.put,xA,xB,xC,xD,xE,xF]
   refine Xw 29 (fun K hK=>?_);go_simp
   go_at_call 74
   have HIV:=Xa (HRV.out _ _ HF1.out);refine(Jp sb B s1 ea el ec ends[d] w.heap.size w1.heap.size (r != 0) w1 (Xa HF1.dr) HIV HEL hel hsbw (Nat.le_refl _)).mono ?_;rintro e w2 ⟨rfl,hd,hg⟩;rw[hrs2]at hd |-;dsimp only at hd |-;have HF2:=Xa (HF1.call hg hd);have HQ2:=Xa (HQ1.sp (XK.grown hg HF1.lt) (fun _ _ _=>trivial));obtain⟨z1,z2,z3,z4⟩:=HF2.facts hi' hj' hpv rfl hdl;rw[hXl]at z1;rw[hav]at z3;rw[hevd]at z4;have z5:w2.cell? ⟨bp,op+k,none⟩=some (.int .i64 (d:Int)):=HQC.out _ _ HQ2.out;have hz2:=HF2.gr.size;have hgl2:g<w2.heap.size:=(HGB.out _ _ HF2.out).2;clear hd hg;refine hK _ _ ⟨z1,z2,z5,z4⟩ (fun hHeld=>?_);clear hK;refine Xw 30 (fun K hK=>?_);go_simp;refine hK _ _ (by first | with_reducible exact hHeld | ((try dsimp only);go_keep)) (fun hHeld=>?_);clear hK
  rotate_left
  focus
   go_simp
   go_at_call 74
   have HIV:=Xa (HRV.out _ _ HF1.out);refine(Jp sb B s1 ea el ec ends[d] w.heap.size w1.heap.size (r != 0) w1 (Xa HF1.dr) HIV HEL hel hsbw (Nat.le_refl _)).mono ?_;rintro e w2 ⟨rfl,hd,hg⟩;rw[hrs2]at hd |-;dsimp only at hd |-;have HF2:=Xa (HF1.call hg hd);have HQ2:=Xa (HQ1.sp (XK.grown hg HF1.lt) (fun _ _ _=>trivial));obtain⟨z1,z2,z3,z4⟩:=HF2.facts hi' hj' hpv rfl hdl;rw[hXl]at z1;rw[hav]at z3;rw[hevd]at z4;have z5:w2.cell? ⟨bp,op+k,none⟩=some (.int .i64 (d:Int)):=HQC.out _ _ HQ2.out;have hz2:=HF2.gr.size;have hgl2:g<w2.heap.size:=(HGB.out _ _ HF2.out).2;clear hd hg;refine hK _ _ ⟨z1,z2,z5,z4⟩ (fun hHeld=>?_);clear hK
   try simp only[Act.put,xA,xB,xC,xD,xE,xF]
   refine wpAnyH_ready (rs:=[16,30]) (by kernel_rfl) (by simp) ?_;refine(AllReadyH.cons rfl (fun K hK=>?_) (AllReadyH.cons rfl (fun K hK=>?_) AllReadyH.nil))
  focus
   go_simp;refine hK _ _ (by first | with_reducible exact hHeld | ((try dsimp only);go_keep)) (fun hHeld=>?_);clear hK
   try simp only[Act.put,xA,xB,xC,xD,xE,xF]
   refine Xw 30 (fun K hK=>?_);go_simp;refine hK _ _ (by first | with_reducible exact hHeld | ((try dsimp only);go_keep)) (fun hHeld=>?_);clear hK
  rotate_left
  focus
   go_simp;refine hK _ _ (by first | with_reducible exact hHeld | ((try dsimp only);go_keep)) (fun hHeld=>?_);clear hK
   try simp only[Act.put,xA,xB,xC,xD,xE,xF]
   refine Xw 16 (fun K hK=>?_);go_simp;refine hK _ _ (by first | with_reducible exact hHeld | ((try dsimp only);go_keep)) (fun hHeld=>?_);clear hK
  all_goals (
   refine Xw 31 (fun K hK=>?_);refine Zh rfl _ _ 44 rfl w.heap.size 2 j0 (.int .i64 0) 1 8 Tryz.underlying44 hj0 hy0 hy1 hy2 rfl (by decide) (.slice aa al ac) acc.length (Xo acc) rfl ?s1 ⟨w2.heap.size,0,none⟩ 1 1 [.int .i64 xn] rfl rfl ?s2 ?s3 ?s4 ?s5 ?s6 ?_
   case s1=>exact(HRA.out _ _ HF2.out).alloc _
   case s2=>exact YB _ _ _
   case s3=>intro u hu;simp at hu;subst hu;rfl
   case s4=>unfold maxLen;have:=HAL.out;omega
   case s5=>have:=HAL.out;omega
   case s6=>simp;omega
   intro v8 w8 hown8 hg8 hne8 hat8;obtain⟨hS8,hS9⟩:=(HF2.box _).held8 hi' hj' hpv rfl hdl (HQ2.sp (XK.box _) (fun _ _ _=>trivial)) hkp HDK.out (by rw[hav];exact hg8);obtain⟨⟨hc8,hz8⟩,lab8,hf9,ks9⟩:=(HF2.box _).pushArg (x:=xn) hi' hj' hpv (by rw[hav];exact hg8) (by rw[hxa];exact hown8) (by rw[hxa]) (by rw[hav];simpa using hat8);have HP9:=Xa ((HQ2.sp (XK.box _) (fun _ _ _=>trivial)).sp ks9 (fun b e _=>by rw[e];simp));rw[hXl,hevd]at hS8;simp only[hXl,hevd]at hS9;rw[hav]at hc8;have HS8:=Xa hS8;have HS9:=Xa hS9;have HF9:=Xa hf9;obtain⟨g8,c8,rfl,hgb,hcap⟩:=Xj hown8 (by omega);clear hS8 hS9 hf9 ks9 hgb hcap hne8 hat8 hown8 hg8;refine hK _ _ HS8.out (fun hHeld=>?_);clear hK;refine XI 32 ?_;refine XI 33 ?_;refine Xw 34 (fun K hK=>?_);go_simp;refine hK _ _ (HS9.out _ _) (fun hHeld=>?_);clear hK;refine Y7 ?_;clear hHeld hc8 hz8
   go_wp2_with fail
   refine⟨⟨⟨k+1,acc++[xn],s2,_⟩,rfl,rfl,(by show k+1<=pl;omega),HNX,Xa ?_⟩,by simp[intOf];omega⟩;have hfin:=HF9.out;rw[HXS.out]at hfin;exact⟨_,_,_,_,_,hfin,HP9.out⟩)
 ·have hltI:¬(k:Int)<pl:=by omega
  have hke:k=pl:=by omega
  subst hke
  go_wp2_with fail
  have e:=HE.1;rw[List.drop_of_length_le (by have:=hN.out;omega)]at e;have e1:(acc,s)=Z4 ends preds s0 xs[i].phis[j].args:=e;refine HX.out s _ _ rfl (by rw[<-e1]) ?_;rw[<-e1];exact HS.out
end Go.Proofs.YtkehcdfalcakmaaGreatDoor
