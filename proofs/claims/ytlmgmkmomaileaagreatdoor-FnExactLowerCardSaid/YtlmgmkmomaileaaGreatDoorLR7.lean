import Derived.Test.YtlmgmkmomaileaaGreatDoorLO8
namespace Go.Proofs.YtlmgmkmomaileaaGreatDoor
set_option maxHeartbeats 4000000
set_option maxRecDepth 100000
open Go.RowKit
def LpH(w0:LpW)(wr:World)(lb:Nat)(V:Int)(a:Option Addr)(n c:Nat)(ac:Option Addr)(nc cc:Nat)(pa:Option Addr)(pc:Nat)(k:Int)(M:List Xy):Prop:=∃lab mv iv,VI w0 wr lab lb V a n c ac nc cc pa pc k mv M iv
structure LpG(w0:LpW)(V:Nat)(a:Option Addr)(n:Nat)(xs:List Xh)(L B:Nat)(ac:Option Addr)(nc:Nat)(cs:List Int)(Lc Bc:Nat)(pa:Option Addr):Prop where
 blks:Xk w0.w L B a xs
 len:n=xs.length
 hB:B<=w0.base
 ok:Jd V xs
 ints:Xf w0.w Lc Bc ac cs
 lc:nc=cs.length
 lv:nc=V
 hBc:Bc<=w0.base
 preds:XM w0.w w0.L2 w0.B2 pa ((List.range n).map fun i:Nat=>predsFrom xs 0 (i:Int))
 ops:XQ w0.w
 opb:0 < w0.base
 cr:∀z∈cs,-9223372036854775808<=z/\z<=9223372036854775807
theorem LpG.copies{w0:LpW}{V:Nat}{a:Option Addr}{n:Nat}{xs:List Xh}{L B:Nat}{ac:Option Addr}{nc:Nat}{cs:List Int}{Lc Bc:Nat}{pa:Option Addr}(G:LpG w0 V a n xs L B ac nc cs Lc Bc pa){lb c cc pc:Nat}{f4 f5:Value}{p t:Nat}{W:World}(hW:Below w0.base w0.w W)(hbs:w0.base<=W.heap.size)(hsm:Xv w0.L2 w0.B2 w0.w W)(hb2:w0.B2<=W.heap.size)(hbx:Bx W lb #[.int .i64 (V:Int),.slice a n c,.slice ac nc cc,.slice pa n pc,f4,f5] 61)(htn:t<n)(hp:(p:Int)∈predsFrom xs 0 (t:Int)) :
 Calls Tryz.prog 47 #[.pointer (some ⟨lb,0,none⟩),.int .i64 (p:Int),.int .i64 (t:Int)] W fun e w'=>∃va vc,e=.returned (.slice va (Kb cs xs p (t:Int)).length vc)/\Below W.heap.size W w'/\w'.ownsRow W.heap.size 54 5 (.slice va (Kb cs xs p (t:Int)).length vc) (Kb cs xs p (t:Int)).length (Y1 (Kb cs xs p (t:Int)))/\∃g,va=some ⟨g,0,none⟩:=by
 refine(Vx lb V a n c xs L B ac nc cc cs Lc Bc pa pc w0.L2 w0.B2 f4 f5 p t W (Xa hbx) (Xa (G.blks.keep (hW.mono G.hB))) (Xa G.len) (by have:=G.hB;omega) (Xa G.ok) (Xa (G.ints.keep (hW.mono G.hBc))) (Xa G.lc) (Xa G.lv) (by have:=G.hBc;omega) (Xa (G.preds.keepS hsm)) hb2 (Xa (G.ops.keep hW G.opb)) htn (Xa hp) (Xa G.cr)).mono ?_;rintro e w5 ⟨v5,rfl,hv5,hb5,ho5⟩;rcases XU ho5 with⟨e,_,_⟩ | ⟨g,c,e,_,_⟩
 ·exact absurd e hv5
 ·subst e
  exact⟨_,_,rfl,hb5,ho5,g,rfl⟩
theorem T7(w0:LpW)(V:Nat)(a:Option Addr)(n c:Nat)(xs:List Xh)(L B:Nat)(ac:Option Addr)(nc cc:Nat)(cs:List Int)(Lc Bc:Nat)(pa:Option Addr)(pc:Nat)(lb:Nat)(k:Int)(M:List Xy)(p t:Nat)(w:World)(hG:Hid (LpG w0 V a n xs L B ac nc cs Lc Bc pa))(hH:Hid (LpH w0 w lb (V:Int) a n c ac nc cc pa pc k M))(hM:M.length<=5000)(htn:t<n)(hp:Hid ((p:Int)∈predsFrom xs 0 (t:Int))) :
 Calls Tryz.prog 48 #[.pointer (some ⟨lb,0,none⟩),.int .i64 (p:Int),.int .i64 (t:Int)] w fun e w'=>e=.returned (.int .i64 (XK cs xs p (t:Int) M.length).1)/\LpH w0 w' lb (V:Int) a n c ac nc cc pa pc k (M++(XK cs xs p (t:Int) M.length).2)/\∀b cs,Bx w b cs 48->Bx w' b cs 48:=by
 obtain⟨j0,hj0,hy0,hy1,hy2⟩:=info_parts Tryz.infoLM;obtain⟨lab,mv,iv,hS⟩:=hH.out;have HCC:=Xa (hG.copies hS.low hS.bs hS.sm hS.b2 hS.bx htn hp.out);obtain⟨ma,mc,hmv⟩:=hS.m.blks.form;subst hmv;have HS:=Xa hS;have HSE:Hid (XK cs xs p (t:Int) M.length=if Kb cs xs p (t:Int)=[]then ((t:Int),[])else ((M.length:Int),[⟨Kb cs xs p (t:Int),⟨1,0,(t:Int),0⟩⟩])):=Xa rfl;obtain⟨CP,hCP⟩:∃CP,CP=Kb cs xs p (t:Int):=⟨_,rfl⟩;rw[<-hCP]at HCC HSE;obtain⟨cl,hcl⟩:∃cl,cl=CP.length:=⟨_,rfl⟩;rw[<-hcl]at HCC;have HCL:=Xa hcl;clear hCP hcl hS hH
 go_enter Tryz.func48,Tryz.ntmps48
 go_wp2_with fail
 refine HCC.mono ?_;rintro e w5 ⟨va,vc,rfl,hb5,ho5,g5,rfl⟩;obtain⟨lab5,hr5,hs5⟩:=XJ.fresh (L:=(3,M.length,0)) (lab:=lab) (base:=w0.base) hb5 ho5 HS.bs HS.fr;have HS5:=Xa (HS.spT hb5 hs5);have HKP:Hid (∀b cs,Bx w b cs 48->Bx w5 b cs 48):=Xa (fun b cs h=>h.keep (hb5.block b h.lt));have HR5:=Xa hr5;clear hb5 ho5 hr5 hs5 HCC HS;by_cases h0:cl=0
 ·have HE:Hid (XK cs xs p (t:Int) M.length=((t:Int),[])):=Xa (by rw[HSE.out,if_pos (List.length_eq_zero_iff.1 (by rw[<-HCL.out];exact h0))])
  subst h0;go_wp2
  go_ret
  rw[HE.out];exact⟨rfl,⟨_,_,_,by rw[List.append_nil];exact HS5.out⟩,HKP.out⟩
 ·have HE:Hid (XK cs xs p (t:Int) M.length=((M.length:Int),[⟨CP,⟨1,0,(t:Int),0⟩⟩])):=Xa (by rw[HSE.out,if_neg (fun e=>h0 (by rw[HCL.out,e];rfl))])
  have h0I:¬(cl:Int)=0:=oM;obtain⟨ml,hml⟩:∃ml,ml=M.length:=⟨_,rfl⟩;have HML:=Xa hml;rw[<-hml]at hM;have l5:w5.cell? ⟨lb,5,none⟩=some (.slice ma M.length mc):=Bx.cell HS5.bx rfl;rw[<-hml]at l5;clear hml;go_wp2;have hbt:=(Xb (Below.refl w5.heap.size w5) (.cells #[.slice (some ⟨g5,0,none⟩) cl vc,.int .i64 1,.int .i64 0,.int .i64 (t:Int),.int .i64 0] 52));have hBx:=Bx.new w5 #[.slice (some ⟨g5,0,none⟩) cl vc,.int .i64 1,.int .i64 0,.int .i64 (t:Int),.int .i64 0] 52;have HSB:=Xa (HS5.calm hbt);have HKB:Hid (∀b cs,Bx w b cs 48->Bx (w5.alloc (.cells #[.slice (some ⟨g5,0,none⟩) cl vc,.int .i64 1,.int .i64 0,.int .i64 (t:Int),.int .i64 0] 52)) b cs 48):=Xa (fun b cs h=>(HKP.out b cs h).box _);clear HKP;have HRB:=Xa (HR5.sp (JT.below hbt) (fun _ _=>trivial));have hlr:lb<w5.heap.size:=HS5.bx.lt;have hl0:lab5 w5.heap.size=(0,0,0):=HS5.fr _ (Nat.le_refl _);have HSZ:Hid ((w5.alloc (.cells #[.slice (some ⟨g5,0,none⟩) cl vc,.int .i64 1,.int .i64 0,.int .i64 (t:Int),.int .i64 0] 52)).heap.size=w5.heap.size+1):=Xa sP;have hw05:w0.base<=w5.heap.size:=HS5.bs;clear hbt l5 HS5 HR5;generalize w5.alloc (.cells #[.slice (some ⟨g5,0,none⟩) cl vc,.int .i64 1,.int .i64 0,.int .i64 (t:Int),.int .i64 0] 52)=wb at *;have hbz:w5.heap.size<wb.heap.size:=by have:=HSZ.out;omega
  generalize w5.heap.size=bb at *;have hlw:lb<wb.heap.size:=oM;have hw0b:w0.base<=wb.heap.size:=oM;have hlbb:lb≠bb:=oM;have hbbl:bb≠lb:=oM;have t0:wb.cell? ⟨bb,0,none⟩=some (.slice (some ⟨g5,0,none⟩) cl vc):=Bx.cell hBx rfl;have t1:wb.cell? ⟨bb,1,none⟩=some (.int .i64 1):=Bx.cell hBx rfl;have t2:wb.cell? ⟨bb,2,none⟩=some (.int .i64 0):=Bx.cell hBx rfl;have t3:wb.cell? ⟨bb,3,none⟩=some (.int .i64 (t:Int)):=Bx.cell hBx rfl;have t4:wb.cell? ⟨bb,4,none⟩=some (.int .i64 0):=Bx.cell hBx rfl;have l5:wb.cell? ⟨lb,5,none⟩=some (.slice ma ml mc):=by rw[HML.out];exact Bx.cell HSB.bx rfl
  have HBB:=Xa hBx;clear hBx;have HOW:Hid ((wb.drew.alloc (.cells #[.slice (some ⟨g5,0,none⟩) cl vc,.int .i64 1,.int .i64 0,.int .i64 (t:Int),.int .i64 0] 52)).ownsRow w0.base 52 5 (.slice ma ml mc) ml (Jv iv M)):=Xa (World.ownsRow.alloc (w:=wb.drew) (by rw[HML.out];exact HSB.m.blks.own) _);refine Z1 (fun w'=>w'.cell? ⟨bb,0,none⟩=some (.slice (some ⟨g5,0,none⟩) cl vc)/\w'.cell? ⟨bb,1,none⟩=some (.int .i64 1)/\w'.cell? ⟨bb,2,none⟩=some (.int .i64 0)/\w'.cell? ⟨bb,3,none⟩=some (.int .i64 (t:Int))/\w'.cell? ⟨bb,4,none⟩=some (.int .i64 0)) (fun hHeld=>?_);refine Xi 0 ?_;refine Xi 1 ?_;refine Xi 2 ?_;refine Xi 3 ?_;refine Xi 4 ?_;refine Xi 6 ?_;refine wpAnyH_ready (rs:=[5,7]) vZ sP ?_;refine(AllReadyH.cons rfl (fun K hK=>?_) (AllReadyH.cons rfl (fun K hK=>?_) AllReadyH.nil))
  ·go_simp
   refine hK _ _ kP (fun hHeld=>?_);clear hK
   try simp only[Act.put,xA,xB,xC,xD,xE,xF]
   refine Xt 7 (fun K hK=>?_);go_simp;refine hK _ _ kP (fun hHeld=>?_);clear hK;refine Xt 8 (fun K hK=>?_);refine Yf rfl _ _ 27 rfl w0.base 52 j0 (.agg #[.slice none 0 0,.int .i64 0,.int .i64 0,.int .i64 0,.int .i64 0]) 5 56 Tryz.underlying27 hj0 hy0 hy1 hy2 rfl dC (.slice ma ml mc) ml (Jv iv M) rfl HOW.out ⟨wb.heap.size,0,none⟩ 1 1 [.slice (some ⟨g5,0,none⟩) cl vc,.int .i64 1,.int .i64 0,.int .i64 (t:Int),.int .i64 0] rfl rfl (World.news_of_block (World.alloc_heap_new _ _)) ?s3 ?s4 ?s5 ?s6 ?_
   case s3=>intro u hu;simp at hu;rcases hu with rfl | rfl | rfl | rfl | rfl<;>rfl
   case s4=>unfold maxLen;omega
   case s5=>omega
   case s6=>simp;omega
   intro v8 w8 hown8 hg8 hne8 hat8;have hA:=HSB.calm (w8:=wb.drew.alloc (.cells #[.slice (some ⟨g5,0,none⟩) cl vc,.int .i64 1,.int .i64 0,.int .i64 (t:Int),.int .i64 0] 52)) ((Below.refl wb.heap.size wb).drew.alloc (Nat.le_refl _) _);have hR:=HRB.sp (w':=wb.drew.alloc (.cells #[.slice (some ⟨g5,0,none⟩) cl vc,.int .i64 1,.int .i64 0,.int .i64 (t:Int),.int .i64 0] 52)) (JT.below ((Below.refl wb.heap.size wb).drew.alloc (Nat.le_refl _) _)) (fun _ _=>trivial);obtain⟨⟨lab8,hS8⟩,hl8⟩:=hA.push ⟨CP,⟨1,0,(t:Int),0⟩⟩ (by show XJ _ _ _ _ _ _ _ CP.length _;rw[<-HCL.out];exact hR) (by rw[<-HML.out];exact hg8) (by rw[<-HML.out];exact hown8) (by rw[<-HML.out];exact hat8);obtain⟨g8,c8,rfl,_,_⟩:=XC hown8 oM;have hnb:some bb≠(Value.slice ma ml mc).ownBlock:=fun e=>by
    have h9:=HSB.m.blks.lab bb (by rw[<-HML.out];exact e.symm);rw[hl0]at h9;simp at h9
   have hb8:Bx w8 bb _ _:=HBB.keep ((hg8.block bb (by simp;omega) hnb).trans (Below.heap_alloc wb.drew _ _ hbz));rw[<-HML.out]at hl8;have k5:w8.cell? ⟨lb,5,none⟩=some (.slice ma ml mc):=Bx.cell hl8 rfl;have kz:=Bx.thaw hl8;have HS8:=Xa hS8;have HK8:Hid (∀b cs,Bx w b cs 48->Bx (w8.setCell ⟨lb,5,none⟩ (.slice (some ⟨g8,0,none⟩) (ml+1) c8)) b cs 48):=Xa (fun b cs h=>by
    have h1:=HKB.out b cs h;have h2:Bx (wb.drew.alloc (.cells #[.slice (some ⟨g5,0,none⟩) cl vc,.int .i64 1,.int .i64 0,.int .i64 (t:Int),.int .i64 0] 52)) b cs 48:=Bx.box (w:=wb.drew) h1 _;exact(h2.grown hg8 (WW h2 HOW.out dC)).other (Un (h2.grown hg8 (WW h2 HOW.out dC)) hl8 dC))
   refine hK _ _ ⟨Bx.cell hb8 rfl,Bx.cell hb8 rfl,Bx.cell hb8 rfl,Bx.cell hb8 rfl,Bx.cell hb8 rfl⟩ (fun hHeld=>?_);clear hK hown8 hg8 hne8 hat8 hA hR hS8 hl8 hb8 hnb t0 t1 t2 t3 t4 l5
   try simp only[Act.put,xA,xB,xC,xD,xE,xF]
   refine Xi 9 ?_;refine Xi 10 ?_;refine Xi 11 ?_;refine Xt 12 (fun K hK=>?_);go_simp;refine hK _ _ kP (fun hHeld=>?_);clear hK;refine YA ?_;clear hHeld;have q5:(w8.setCell ⟨lb,5,none⟩ (.slice (some ⟨g8,0,none⟩) (ml+1) c8)).cell? ⟨lb,5,none⟩=some (.slice (some ⟨g8,0,none⟩) (ml+1) c8):=Bx.cell HS8.bx rfl;generalize w8.setCell ⟨lb,5,none⟩ (.slice (some ⟨g8,0,none⟩) (ml+1) c8)=w9 at *;clear k5 kz;go_wp2
   go_ret
   rw[HE.out];exact⟨by rw[HML.out];simp,⟨_,_,_,HS8.out⟩,HK8.out⟩
  ·go_simp
   refine hK _ _ kP (fun hHeld=>?_);clear hK
   try simp only[Act.put,xA,xB,xC,xD,xE,xF]
   refine Xt 5 (fun K hK=>?_);go_simp;refine hK _ _ kP (fun hHeld=>?_);clear hK;refine Xt 8 (fun K hK=>?_);refine Yf rfl _ _ 27 rfl w0.base 52 j0 (.agg #[.slice none 0 0,.int .i64 0,.int .i64 0,.int .i64 0,.int .i64 0]) 5 56 Tryz.underlying27 hj0 hy0 hy1 hy2 rfl dC (.slice ma ml mc) ml (Jv iv M) rfl HOW.out ⟨wb.heap.size,0,none⟩ 1 1 [.slice (some ⟨g5,0,none⟩) cl vc,.int .i64 1,.int .i64 0,.int .i64 (t:Int),.int .i64 0] rfl rfl (World.news_of_block (World.alloc_heap_new _ _)) ?s3 ?s4 ?s5 ?s6 ?_
   case s3=>intro u hu;simp at hu;rcases hu with rfl | rfl | rfl | rfl | rfl<;>rfl
   case s4=>unfold maxLen;omega
   case s5=>omega
   case s6=>simp;omega
   intro v8 w8 hown8 hg8 hne8 hat8;have hA:=HSB.calm (w8:=wb.drew.alloc (.cells #[.slice (some ⟨g5,0,none⟩) cl vc,.int .i64 1,.int .i64 0,.int .i64 (t:Int),.int .i64 0] 52)) ((Below.refl wb.heap.size wb).drew.alloc (Nat.le_refl _) _);have hR:=HRB.sp (w':=wb.drew.alloc (.cells #[.slice (some ⟨g5,0,none⟩) cl vc,.int .i64 1,.int .i64 0,.int .i64 (t:Int),.int .i64 0] 52)) (JT.below ((Below.refl wb.heap.size wb).drew.alloc (Nat.le_refl _) _)) (fun _ _=>trivial);obtain⟨⟨lab8,hS8⟩,hl8⟩:=hA.push ⟨CP,⟨1,0,(t:Int),0⟩⟩ (by show XJ _ _ _ _ _ _ _ CP.length _;rw[<-HCL.out];exact hR) (by rw[<-HML.out];exact hg8) (by rw[<-HML.out];exact hown8) (by rw[<-HML.out];exact hat8);obtain⟨g8,c8,rfl,_,_⟩:=XC hown8 oM;have hnb:some bb≠(Value.slice ma ml mc).ownBlock:=fun e=>by
    have h9:=HSB.m.blks.lab bb (by rw[<-HML.out];exact e.symm);rw[hl0]at h9;simp at h9
   have hb8:Bx w8 bb _ _:=HBB.keep ((hg8.block bb (by simp;omega) hnb).trans (Below.heap_alloc wb.drew _ _ hbz));rw[<-HML.out]at hl8;have k5:w8.cell? ⟨lb,5,none⟩=some (.slice ma ml mc):=Bx.cell hl8 rfl;have kz:=Bx.thaw hl8;have HS8:=Xa hS8;have HK8:Hid (∀b cs,Bx w b cs 48->Bx (w8.setCell ⟨lb,5,none⟩ (.slice (some ⟨g8,0,none⟩) (ml+1) c8)) b cs 48):=Xa (fun b cs h=>by
    have h1:=HKB.out b cs h;have h2:Bx (wb.drew.alloc (.cells #[.slice (some ⟨g5,0,none⟩) cl vc,.int .i64 1,.int .i64 0,.int .i64 (t:Int),.int .i64 0] 52)) b cs 48:=Bx.box (w:=wb.drew) h1 _;exact(h2.grown hg8 (WW h2 HOW.out dC)).other (Un (h2.grown hg8 (WW h2 HOW.out dC)) hl8 dC))
   refine hK _ _ ⟨Bx.cell hb8 rfl,Bx.cell hb8 rfl,Bx.cell hb8 rfl,Bx.cell hb8 rfl,Bx.cell hb8 rfl⟩ (fun hHeld=>?_);clear hK hown8 hg8 hne8 hat8 hA hR hS8 hl8 hb8 hnb t0 t1 t2 t3 t4 l5
   try simp only[Act.put,xA,xB,xC,xD,xE,xF]
   refine Xi 9 ?_;refine Xi 10 ?_;refine Xi 11 ?_;refine Xt 12 (fun K hK=>?_);go_simp;refine hK _ _ kP (fun hHeld=>?_);clear hK;refine YA ?_;clear hHeld;have q5:(w8.setCell ⟨lb,5,none⟩ (.slice (some ⟨g8,0,none⟩) (ml+1) c8)).cell? ⟨lb,5,none⟩=some (.slice (some ⟨g8,0,none⟩) (ml+1) c8):=Bx.cell HS8.bx rfl;generalize w8.setCell ⟨lb,5,none⟩ (.slice (some ⟨g8,0,none⟩) (ml+1) c8)=w9 at *;clear k5 kz;go_wp2
   go_ret
   rw[HE.out];exact⟨by rw[HML.out];simp,⟨_,_,_,HS8.out⟩,HK8.out⟩
theorem VI.term{w0:LpW}{wr:World}{lab:Nat->Nat × Nat × Nat}{lb:Nat}{V:Int}{a:Option Addr}{n c:Nat}{ac:Option Addr}{nc cc:Nat}{pa:Option Addr}{pc:Nat}{k:Int}{g nm cm:Nat}{M:List Xy}{iv:Nat->Value}(h:VI w0 wr lab lb V a n c ac nc cc pa pc k (.slice (some ⟨g,0,none⟩) nm cm) M iv)(hnm:nm=M.length){i q:Nat}(hi:i<M.length)(hq:q<5)(u:Value){t':Zu}(he:(Ui (iv i) M[i].term).set q u=Ui (iv i) t') :
 VI w0 (wr.setCell ⟨g,i*5+q,none⟩ u) lab lb V a n c ac nc cc pa pc k (.slice (some ⟨g,0,none⟩) nm cm) (M.set i ⟨M[i].instrs,t'⟩) (fun j=>if j=i then iv i else iv j):=by
 have hM:=h.m.turn hnm dC hi hq u (iv i) ⟨M[i].instrs,t'⟩ he (h.m.ins i hi);subst hnm;have hgl:=h.m.blks.blk;have hlg:lb≠g:=fun e=>by have:=h.l0;rw[e,hgl.2]at this;simp at this
 exact⟨h.low.setCell (p:=⟨g,i*5+q,none⟩) hgl.1.1 _,h.bx.other hlg,h.lw,hM,(JT.put (w:=wr) (lab:=lab) (base:=w0.base) g (i*5+q) u).fresh h.fr,h.l0,fun b h1 h2=>(Below.heap_setCell _ _ _ _ (fun e=>by have:=h.lp b h1 h2;have e2:b=g:=e;rw[e2,hgl.2]at this;simp at this)).trans (h.sm b h1 h2),h.lp,h.gd⟩
theorem Zay(w0:LpW)(V:Nat)(a:Option Addr)(n c:Nat)(xs:List Xh)(L B:Nat)(ac:Option Addr)(nc cc:Nat)(cs:List Int)(Lc Bc:Nat)(pa:Option Addr)(pc:Nat)(lb:Nat)(k:Int)(M:List Xy)(p:Nat)(w:World)(hG:Hid (LpG w0 V a n xs L B ac nc cs Lc Bc pa))(hH:Hid (LpH w0 w lb (V:Int) a n c ac nc cc pa pc k M))(hM:M.length<=4000)(hpn:p<xs.length)(hpM:p<M.length)(hx:Hid (M[p]=⟨xs[p].instrs.map (YC cs),Ka cs xs[p].term⟩)) :
 Calls Tryz.prog 24 #[.pointer (some ⟨lb,0,none⟩),.int .i64 (p:Int)] w fun e w'=>e=.returned (.tuple #[])/\LpH w0 w' lb (V:Int) a n c ac nc cc pa pc k (M.set p (UM cs xs p xs[p] M.length).1++(UM cs xs p xs[p] M.length).2):=by
 obtain⟨i0,hi0,hz0,hz1,hz2⟩:=info_parts Tryz.infoLI;have HN:=Xa hG.len;obtain⟨lab,mv,iv,hS⟩:=hH.out;obtain⟨gb,ob,rfl,⟨_,hgB⟩,hcb⟩:=hG.blks p hpn;obtain⟨qa,qc,ia,ic,_,_,⟨e2,e3,e4,e5⟩,_,_⟩:=hcb;have hgW:gb<w0.base:=by have:=hG.hB;omega
 have HPR:Hid (∀t:Int,t∈xs[p].term.targets->(0<=t/\t<n)/\(p:Int)∈predsFrom xs 0 t):=Xa (fun t ht=>⟨by have:=hG.ok.okf.tgt _ (List.getElem_mem hpn) t ht;rw[HN.out];exact this,by have:=Vc t xs 0 p hpn ht;simpa using this⟩);have cc0:=fun o=>hS.low.cell (p:=⟨gb,o,none⟩) hgW
 have f2:=(cc0 _).trans e2;have f3:=(cc0 _).trans e3;have f4:=(cc0 _).trans e4;have f5:=(cc0 _).trans e5;have hgw:gb<w.heap.size:=by have:=hS.bs;omega
 have hpI:(p:Int)<(n:Int):=by have:=HN.out;omega
 obtain⟨mg,mc,hmv⟩:=hS.m.blks.got oM;subst hmv;obtain⟨va,vc,hiv⟩:=(hS.m.ins p hpM).form;have hil:M[p].instrs.length=xs[p].instrs.length:=by rw[hx.out,List.length_map]
 rw[hil]at hiv;have HIL:=Xa hil;have HIV:=Xa hiv;have HYL:Hid (xs[p].instrs.length<=4000):=Xa (hG.ok.lens _ (List.getElem_mem hpn)).1;obtain⟨ml,hml⟩:∃ml,ml=M.length:=⟨_,rfl⟩;have HML:=Xa hml;have hpmI:(p:Int)<(ml:Int):=oM;have l5:w.cell? ⟨lb,5,none⟩=some (.slice (some ⟨mg,0,none⟩) ml mc):=by rw[hml];exact Bx.cell hS.bx rfl
 have m0:w.cell? ⟨mg,p*5,none⟩=some (.slice va xs[p].instrs.length vc):=by have:=Kv (q:=0) (u:=iv p) hS.m.blks hpM oM rfl;rw[Nat.add_zero,hiv]at this;exact this
 have hmgw:mg<w.heap.size:=hS.m.blks.blk.1.2;have hlbw:lb<w.heap.size:=hS.bx.lt;clear hil hiv hml;have l1:w.cell? ⟨lb,1,none⟩=some (.slice (some ⟨gb,ob,none⟩) n c):=Bx.cell hS.bx rfl;have HS:=Xa hS;have HLB:Hid (UM cs xs p xs[p] M.length=if xs[p].term.kind=1 then (⟨xs[p].instrs.map (YC cs)++Kb cs xs p xs[p].term.to,Ka cs xs[p].term⟩,[])
  else if xs[p].term.kind=2 then (⟨xs[p].instrs.map (YC cs),⟨xs[p].term.kind,lcN cs xs[p].term.a,(XK cs xs p xs[p].term.to M.length).1,(XK cs xs p xs[p].term.els (M.length+(XK cs xs p xs[p].term.to M.length).2.length)).1⟩⟩,(XK cs xs p xs[p].term.to M.length).2++(XK cs xs p xs[p].term.els (M.length+(XK cs xs p xs[p].term.to M.length).2.length)).2)
  else (⟨xs[p].instrs.map (YC cs),Ka cs xs[p].term⟩,[])):=Xa rfl
 obtain⟨R,hR⟩:∃R,R=UM cs xs p xs[p] M.length:=⟨_,rfl⟩;rw[<-hR]at HLB |-;clear hS cc0 e2 e3 e4 e5 hR;generalize xs[p]=X at *;obtain⟨ps,ys,kd,ta,t1,t2⟩:=X;dsimp only at f2 f3 f4 f5 HLB HPR hx HIL HIV HYL m0
 go_enter Tryz.func24,Tryz.ntmps24
 by_cases h1:kd=1
 ·subst h1
  rw[if_pos rfl]at HLB;have hpr:=HPR.out t1 (by simp[Zu.targets]);obtain⟨tq,rfl⟩:∃tq:Nat,t1=(tq:Int):=⟨t1.toNat,oM⟩;have HED:=Xa (fun (W:World)(hW:Below w0.base w0.w W)(hbs:w0.base<=W.heap.size)(hsm:Xv w0.L2 w0.B2 w0.w W)(hb2:w0.B2<=W.heap.size)(hb:Bx W lb #[.int .i64 (V:Int),.slice (some ⟨gb,ob,none⟩) n c,.slice ac nc cc,.slice pa n pc,.int .i64 k,.slice (some ⟨mg,0,none⟩) M.length mc] 61)=>hG.copies (p:=p) (t:=tq) hW hbs hsm hb2 hb oM hpr.2);have HSQ:Hid ((Kb cs xs p (tq:Int)).length<=128):=Xa (UN _);obtain⟨CP,hCP⟩:∃CP,CP=Kb cs xs p (tq:Int):=⟨_,rfl⟩;rw[<-hCP]at HED HSQ HLB;obtain⟨cl,hcl⟩:∃cl,cl=CP.length:=⟨_,rfl⟩;rw[<-hcl]at HED HSQ;have HCL:=Xa hcl;have hcl1:=HSQ.out;have hyl:=HYL.out;clear hCP hcl hpr HPR;have hbt:=Xb (Below.refl w.heap.size w) (.cells #[.int .i64 1,.int .i64 ta,.int .i64 (tq:Int),.int .i64 t2] 48);have hBx:=Bx.new w #[.int .i64 1,.int .i64 ta,.int .i64 (tq:Int),.int .i64 t2] 48;have HST:=Xa (HS.calm hbt);have hntb:mg≠w.heap.size:=oM;have hntb':w.heap.size≠mg:=oM;have u2:(w.alloc (.cells #[.int .i64 1,.int .i64 ta,.int .i64 (tq:Int),.int .i64 t2] 48)).cell? ⟨w.heap.size,2,none⟩=some (.int .i64 (tq:Int)):=Bx.cell hBx rfl;have m0t:=(hbt.cell (p:=⟨mg,p*5,none⟩) hmgw).trans m0;have HBB:=Xa hBx;have HLT:Hid (lab w.heap.size=(0,0,0)):=Xa (HS.fr _ (Nat.le_refl _));have hwtz:w.heap.size<=(w.alloc (.cells #[.int .i64 1,.int .i64 ta,.int .i64 (tq:Int),.int .i64 t2] 48)).heap.size:=hbt.size;clear hBx hbt;go_wp2;clear f2 f3 f4 f5 l1 l5 m0 HS;generalize w.alloc (.cells #[.int .i64 1,.int .i64 ta,.int .i64 (tq:Int),.int .i64 t2] 48)=wt at *;have hmgt:mg<wt.heap.size:=oM;generalize w.heap.size=tb at *;have HEDW:=Xa (HED.out wt.drew HST.low.drew HST.bs HST.sm HST.b2 (HST.bx.keep rfl));refine Z1 (fun w'=>w'.cell? ⟨tb,2,none⟩=some (.int .i64 (tq:Int))) (fun hHeld=>?_);refine Xi 0 ?_;refine Xi 1 ?_;refine Xi 2 ?_;refine Xi 3 ?_;refine Xi 5 ?_;refine Xi 6 ?_;refine Xi 7 ?_;refine Xi 8 ?_;refine wpAnyH_ready (rs:=[4,9]) vZ sP ?_;refine(AllReadyH.cons rfl (fun K hK=>?_) (AllReadyH.cons rfl (fun K hK=>?_) AllReadyH.nil))
  focus
   go_simp;refine hK _ _ kP (fun hHeld=>?_);clear hK
   try simp only[Act.put,xA,xB,xC,xD,xE,xF]
   refine Xt 9 (fun K hK=>?_);go_simp
   go_at_call 47
   with_reducible refine HEDW.out.mono ?_
   rintro e w5 ⟨v5a,c5,rfl,hb5,ho5,g5,rfl⟩;have hb6:Below wt.heap.size wt w5:=Xd (Below.refl wt.heap.size wt).drew hb5;have HX5:=Xa (HST.calm hb6);have HBB5:=Xa (HBB.keep (hb6.block _ HBB.lt));have x5:w5.cell? ⟨mg,p*5,none⟩=some (.slice va ys.length vc):=(hb6.cell (p:=⟨mg,p*5,none⟩) hmgt).trans m0t;have HO5:=Xa ho5;have s5:w5.cell? ⟨tb,2,none⟩=some (.int .i64 (tq:Int)):=Bx.cell HBB5.out rfl;clear hb5 ho5 hb6;dsimp only;refine hK _ _ s5 (fun hHeld=>?_);clear hK
  rotate_left
  focus
   go_simp
   go_at_call 47
   with_reducible refine HEDW.out.mono ?_
   rintro e w5 ⟨v5a,c5,rfl,hb5,ho5,g5,rfl⟩;have hb6:Below wt.heap.size wt w5:=Xd (Below.refl wt.heap.size wt).drew hb5;have HX5:=Xa (HST.calm hb6);have HBB5:=Xa (HBB.keep (hb6.block _ HBB.lt));have x5:w5.cell? ⟨mg,p*5,none⟩=some (.slice va ys.length vc):=(hb6.cell (p:=⟨mg,p*5,none⟩) hmgt).trans m0t;have HO5:=Xa ho5;have s5:w5.cell? ⟨tb,2,none⟩=some (.int .i64 (tq:Int)):=Bx.cell HBB5.out rfl;clear hb5 ho5 hb6;dsimp only;refine hK _ _ s5 (fun hHeld=>?_);clear hK
   try simp only[Act.put,xA,xB,xC,xD,xE,xF]
   refine Xt 4 (fun K hK=>?_);go_simp;refine hK _ _ kP (fun hHeld=>?_);clear hK
  all_goals (
   refine Xt 10 (fun K hK=>?_);refine Yf rfl _ _ 46 rfl w0.base 54 i0 (.agg #[.int .i64 0,.int .i64 0,.int .i64 0,.int .i64 0,.int .i64 0]) 5 40 Tryz.underlying46 hi0 hz0 hz1 hz2 rfl dC (.slice va ys.length vc) ys.length (Y1 M[p].instrs) rfl ?s1 ⟨g5,0,none⟩ cl c5 (Y1 CP) rfl ?s0 ?s2 ?s3 ?s4 ?s5 ?s6 ?_
   case s1=>have:=(HX5.m.ins p hpM).own;rw[HIL.out,HIV.out]at this;exact this
   case s0=>rw[YT,HCL.out]
   case s2 =>
    intro j u hu;have:=XZ HO5.out hu;cases j with
    | zero=>simpa [Addr.add]using this
    | succ j=>simpa [Addr.add]using this
   case s3=>exact ZJ _
   case s4=>unfold maxLen;omega
   case s5=>omega
   case s6=>exact HX5.bs
   intro v8 w8 hown8 hg8 hne8 hat8;obtain⟨⟨lab8,hS8⟩,hl8,hc8,hz8,hlg8⟩:=HX5.row rfl hpM CP (by rw[HIV.out];exact hg8) (by rw[HIL.out,<-HCL.out];exact hown8) (by rw[HIV.out];exact hat8);rw[HIV.out]at hc8;obtain⟨a8,c8,rfl⟩:∃a8 c8,v8=.slice a8 (ys.length+cl) c8:=by
    rcases XU hown8 with⟨e,h,_⟩ | ⟨g,c,e,_⟩
    ·exact⟨none,0,by rw[e,h]⟩
    ·exact⟨_,_,e⟩
   have HS8:=Xa hS8;have hb8:Bx w8 tb _ _:=HBB5.keep (hg8.block tb HBB5.lt (fun e=>by
    have h9:=(HX5.m.ins p hpM).lab tb (by rw[HIV.out];exact e.symm);rw[HLT.out]at h9;simp at h9))
   refine hK _ _ (Bx.cell hb8 rfl) (fun hHeld=>?_);clear hK hown8 hg8 hne8 hat8 hS8 hl8 hb8
   try simp only[Act.put,xA,xB,xC,xD,xE,xF]
   refine Xi 11 ?_;refine Xi 12 ?_;refine Xt 13 (fun K hK=>?_);go_simp;refine hK _ _ kP (fun hHeld=>?_);clear hK;refine YA ?_;clear hHeld;go_wp2;refine bodyPost_end (v:=.tuple #[]) (by simp[results,Tryz.results24,go_sem]) rfl ⟨rfl,?_⟩;rw[HLB.out,List.append_nil];exact⟨_,_,_,by have:=HS8.out;rw[hx.out]at this;exact this⟩)
 ·by_cases h2:kd=2
  ·subst h2
   rw[if_neg dC,if_pos rfl]at HLB;have hp1:=HPR.out t1 (by simp[Zu.targets]);have hp2:=HPR.out t2 (by simp[Zu.targets]);obtain⟨tq,rfl⟩:∃tq:Nat,t1=(tq:Int):=⟨t1.toNat,oM⟩;obtain⟨tr,rfl⟩:∃tr:Nat,t2=(tr:Int):=⟨t2.toNat,oM⟩;have htq:tq<n:=oM;have htr:tr<n:=oM;have HP1:=Xa hp1.2;have HP2:=Xa hp2.2;have hbt:=Xb (Below.refl w.heap.size w) (.cells #[.int .i64 2,.int .i64 ta,.int .i64 (tq:Int),.int .i64 (tr:Int)] 48);have hBx:=Bx.new w #[.int .i64 2,.int .i64 ta,.int .i64 (tq:Int),.int .i64 (tr:Int)] 48;have HST:=Xa (HS.calm hbt);clear hp1 hp2 HPR;have u3:(w.alloc (.cells #[.int .i64 2,.int .i64 ta,.int .i64 (tq:Int),.int .i64 (tr:Int)] 48)).cell? ⟨w.heap.size,3,none⟩=some (.int .i64 (tr:Int)):=Bx.cell hBx rfl;have HBB:=Xa hBx;obtain⟨s1,hs1⟩:∃s1,s1=XK cs xs p (tq:Int) M.length:=⟨_,rfl⟩;rw[<-hs1]at HLB;obtain⟨s2,hs2⟩:∃s2,s2=XK cs xs p (tr:Int) (M.length+s1.2.length):=⟨_,rfl⟩;rw[<-hs2]at HLB;have HE1:=Xa (T7 w0 V _ n c xs L B ac nc cc cs Lc Bc pa pc lb k M p tq _ hG (Xa ⟨_,_,_,HST.out⟩) oM htq HP1);rw[<-hs1]at HE1;have HL1:Hid (s1.2.length<=1):=Xa (by rw[hs1];exact JX _ _ _ _ _);have HE2:Hid (∀W,LpH w0 W lb (V:Int) (some ⟨gb,ob,none⟩) n c ac nc cc pa pc k (M++s1.2)->Calls Tryz.prog 48 #[.pointer (some ⟨lb,0,none⟩),.int .i64 (p:Int),.int .i64 (tr:Int)] W fun e w'=>e=.returned (.int .i64 s2.1)/\LpH w0 w' lb (V:Int) (some ⟨gb,ob,none⟩) n c ac nc cc pa pc k ((M++s1.2)++s2.2)/\∀b cs,Bx W b cs 48->Bx w' b cs 48):=Xa (fun W hW=>by
    have:=T7 w0 V _ n c xs L B ac nc cc cs Lc Bc pa pc lb k (M++s1.2) p tr W hG (Xa hW) (by rw[List.length_append];have:=HL1.out;omega) htr HP2;rw[List.length_append,<-hs2]at this;exact this)
   have HL2:Hid (s2.2.length<=1):=Xa (by rw[hs2];exact JX _ _ _ _ _);clear hbt hBx hs1 hs2
   go_wp2_with fail
   refine HE1.mono ?_;rintro e w5 ⟨rfl,hH5,hk5⟩;have HB5:=Xa (hk5 _ _ HBB.out);have HE3:=Xa (HE2.out w5 hH5);have v3:w5.cell? ⟨w.heap.size,3,none⟩=some (.int .i64 (tr:Int)):=Bx.cell HB5.out rfl;clear hH5 hk5 HE1 HE2 HST HS u3 f2 f3 f4 f5 l1 l5 m0
   go_wp2_with fail
   refine HE3.mono ?_;rintro e w6 ⟨rfl,hH6,hk6⟩;clear hk6 HE3 v3;obtain⟨lab6,mv6,iv6,hS6⟩:=hH6;have hpM6:p<((M++s1.2)++s2.2).length:=by simp only[List.length_append];omega
   obtain⟨mg6,mc6,hmv6⟩:=hS6.m.blks.got oM;subst hmv6;have hx6:((M++s1.2)++s2.2)[p]=⟨ys.map (YC cs),⟨2,lcN cs ta,(tq:Int),(tr:Int)⟩⟩:=by
    rw[List.getElem_append_left (by rw[List.length_append];omega),List.getElem_append_left hpM,hx.out];rfl
   have HSet:Hid (((M++s1.2)++s2.2).set p ⟨ys.map (YC cs),⟨2,lcN cs ta,s1.1,s2.1⟩⟩=M.set p R.1++R.2):=Xa (by rw[HLB.out,List.append_assoc,List.set_append_left _ _ hpM]);have hS7:=hS6.term rfl hpM6 (q:=3) oM (.int .i64 s1.1) (t':=⟨2,lcN cs ta,s1.1,(tr:Int)⟩) (by rw[hx6];rfl);rw[hx6]at hS7;have hpM7:p<(((M++s1.2)++s2.2).set p ⟨ys.map (YC cs),⟨2,lcN cs ta,s1.1,(tr:Int)⟩⟩).length:=by rw[List.length_set];exact hpM6
   have hx7:(((M++s1.2)++s2.2).set p ⟨ys.map (YC cs),⟨2,lcN cs ta,s1.1,(tr:Int)⟩⟩)[p]=⟨ys.map (YC cs),⟨2,lcN cs ta,s1.1,(tr:Int)⟩⟩:=List.getElem_set_self _;have hS8:=hS7.term (by rw[List.length_set]) hpM7 (q:=4) oM (.int .i64 s2.1) (t':=⟨2,lcN cs ta,s1.1,s2.1⟩) (by rw[hx7];rfl);rw[hx7,List.set_set]at hS8;dsimp only at hS8;rw[HSet.out]at hS8;have HS8:=Xa hS8;have l6:w6.cell? ⟨lb,5,none⟩=some (.slice (some ⟨mg6,0,none⟩) ((M++s1.2)++s2.2).length mc6):=Bx.cell hS6.bx rfl;have n3:w6.cell? ⟨mg6,p*5+3,none⟩=some (.int .i64 (tq:Int)):=Kv (q:=3) hS6.m.blks hpM6 oM (by rw[hx6];rfl);have n4:w6.cell? ⟨mg6,p*5+4,none⟩=some (.int .i64 (tr:Int)):=Kv (q:=4) hS6.m.blks hpM6 oM (by rw[hx6];rfl);have nz:∀q,w6.frozen? ⟨mg6,q,none⟩=false:=fun q=>hS6.m.blks.thaw q
   have hpmI6:(p:Int)<((((M++s1.2)++s2.2).length:Nat):Int):=oM;clear hS6 hS7 hS8 hx6 hx7 hpM7 HSet;generalize ((M++s1.2)++s2.2).length=ml6 at *
   go_wp2_with fail
   refine bodyPost_end (v:=.tuple #[]) (by simp[results,Tryz.results24,go_sem]) rfl ⟨rfl,?_⟩;exact⟨_,_,_,HS8.out⟩
  ·rw[if_neg h1,if_neg h2]at HLB
   go_wp2;refine bodyPost_end (v:=.tuple #[]) (by simp[results,Tryz.results24,go_sem]) rfl ⟨rfl,?_⟩;rw[HLB.out,List.append_nil,<-hx.out,List.set_getElem_self];exact⟨_,_,_,HS.calm (Xb (Below.refl _ _) _)⟩
end Go.Proofs.YtlmgmkmomaileaaGreatDoor
