import Derived.Test.YtkehcdfalcakmaaGreatDoorDGm
import Derived.Test.YtkehcdfalcakmaaGreatDoorTN1
import Derived.Test.YtkehcdfalcakmaaGreatDoorSPv
import Derived.Test.YtkehcdfalcakmaaGreatDoorSPw
import Derived.Test.YtkehcdfalcakmaaGreatDoorSPx
namespace Go.Proofs.YtkehcdfalcakmaaGreatDoor
set_option maxHeartbeats 4000000
open Go.RowKit
theorem ZeD(V G n c:Nat)(xs:List Xf)(lab:Nat->Nat × Nat × Nat)(base:Nat)(pv iv:Nat->Value)(av:Nat->Nat->Value)(sb B:Nat)(s:Sr)(w:World)(hF:Hid (Z5 w lab base (.slice (some ⟨G,0,none⟩) n c) xs pv iv av))(hn:Hid (n=xs.length))(h1:1<=n)(hn2:n<=11)(hbs:base<=w.heap.size)(hfr:Hid (∀b,w.heap.size<=b->lab b=(0,0,0)))(hdr:Hid (Zs w sb B s))(hbb:B<=base)(hV:V<=1000)(hsm:Hid (JK xs))(harg:Hid (PhA xs)) :
 Calls Tryz.prog 55 #[.agg #[.int .i64 (V:Int),.slice (some ⟨G,0,none⟩) n c],.pointer (some ⟨sb,0,none⟩)] w fun e w'=>SpE (XB V xs s) w base sb e w':=by
 have hl:=Xx s (n:=16) (by omega);refine ZeZ V G n c xs lab base pv iv av sb B s w hF hn h1 hn2 hbs hfr hdr hbb hV hsm harg (Xa ?_);generalize (nextP s 16).1=rk at *;by_cases hk:11<=rk
 ·exact ZiP rk hk (by omega)
 have hk16:rk=0\/rk=1\/rk=2\/rk=3\/rk=4\/rk=5\/rk=6\/rk=7\/rk=8\/rk=9\/rk=10:=by omega
 rcases hk16 with rfl | rfl | rfl | rfl | rfl | rfl | rfl | rfl | rfl | rfl | rfl
 ·exact ZiF
 ·exact ZiO
 ·exact Zi6
 ·exact Zi2
 ·exact ZiR
 ·exact ZiS
 ·exact Zi1
 ·exact Zi0
 ·exact Zi9
 ·exact ZiA
 ·exact Ziw
noncomputable def drawF(s:Sr):Fn :=
 if (nextP s 30).1<3 then ⟨(XA (nextP s 30).2 false).1.values,(ZC (XA (nextP s 30).2 false).1.values.toNat (XA (nextP s 30).2 false).1.blocks (XA (nextP s 30).2 false).2).1⟩
 else if (nextP s 30).1=3 then (XA (nextP s 30).2 true).1
 else if (nextP s 30).1<7 then XB (XA (nextP s 30).2 false).1.values.toNat (XA (nextP s 30).2 false).1.blocks (XA (nextP s 30).2 false).2
 else (XA (nextP s 30).2 false).1
structure GdO(w w':World)(sb B:Nat)(G n c:Nat)(lab:Nat->Nat × Nat × Nat)(pv iv:Nat->Value)(av:Nat->Nat->Value)(V:Nat)(xs:List Xf)(s':Sr):Prop where
 dr:Zs w' sb B s'
 gr:w.grownBy w' (some sb)
 fn:Z5 w' lab w.heap.size (.slice (some ⟨G,0,none⟩) n c) xs pv iv av
 fr:∀b,w'.heap.size<=b->lab b=(0,0,0)
 len:n=xs.length
 n1:1<=n
 n11:n<=11
 v:V<=1000
 sml:JK xs
 arg:PhA xs
theorem Za1(sb B:Nat)(s:Sr)(dead:Bool)(w:World)(h:Hid (Zs w sb B s)) :
 Calls Tryz.prog 54 #[.pointer (some ⟨sb,0,none⟩),.bool dead] w fun e w'=>∃lab G n c pv iv av,∃V:Nat,e=.returned (.agg #[.int .i64 (V:Int),.slice (some ⟨G,0,none⟩) n c])/\(XA s dead).1.values=(V:Int)/\GdO w w' sb B G n c lab pv iv av V (XA s dead).1.blocks (XA s dead).2:=by
 refine(ZfV (Xa Zfy) sb B s dead w h).mono ?_;rintro e w' ⟨lab,G,n,c,pv,iv,av,rfl,h1,h2,h3,h4,h5,h6,h7,⟨V,h8,h9⟩,h10,h11⟩;exact⟨lab,G,n,c,pv,iv,av,V,by rw[h8],h8,h1,h2,h3,h4,h5,h6,h7,h9,h10,h11⟩
theorem GdO.spo{w w':World}{sb B G n c:Nat}{lab:Nat->Nat × Nat × Nat}{pv iv:Nat->Value}{av:Nat->Nat->Value}{V:Nat}{xs:List Xf}{s':Sr}(h:GdO w w' sb B G n c lab pv iv av V xs s'):Vh w w' w.heap.size sb (some ⟨G,0,none⟩) xs :=
 ⟨h.fn.at_,h.gr.os,h.gr.tape,h.gr.output,h.gr.size,fun q h1 h2=>h.gr.block q h1 (fun e=>h2 (by injection e))⟩
theorem Vh.after{w w1 w2:World}{base sb:Nat}{a:Option Addr}{xs:List Xf}(g:w.grownBy w1 (some sb))(hb:base<=w.heap.size)(h:Vh w1 w2 base sb a xs):Vh w w2 base sb a xs :=
 ⟨h.at_,h.os.trans g.os,h.tape.trans g.tape,h.output.trans g.output,Nat.le_trans g.size h.size,fun q h1 h2=>(h.low q h1 h2).trans (g.block q (by omega) (fun e=>h2 (by injection e)))⟩
theorem Vh.fin{w w1 w3:World}{base sb:Nat}{a:Option Addr}{xs:List Xf}{u0 u1:Value}(hsb:sb<w.heap.size)(gr:(w.alloc (.cells #[.int .i64 0,.slice none 0 0] 25)).grownBy w1 (some sb))(hb:w.heap.size<base)(h:Vh w1 w3 base sb a xs):Bx w3 w.heap.size #[.int .i64 0,.slice none 0 0] 25/\Vh w ((w3.setCell ⟨w.heap.size,0,none⟩ u0).setCell ⟨w.heap.size,1,none⟩ u1) w.heap.size sb a xs:=by
 have hbx:Bx w3 w.heap.size #[.int .i64 0,.slice none 0 0] 25:=((Bx.new w _ _).grown gr (fun e=>by injection e;omega)).keep (h.low _ hb (by omega));have hB:=((Below.refl w.heap.size w3).setCell (p:=⟨w.heap.size,0,none⟩) (Nat.le_refl _) u0).setCell (p:=⟨w.heap.size,1,none⟩) (Nat.le_refl _) u1;have hS:X7 base w3.heap.size w3 ((w3.setCell ⟨w.heap.size,0,none⟩ u0).setCell ⟨w.heap.size,1,none⟩ u1):=fun q h1 _=>by
  have hq:q≠w.heap.size:=by omega
  exact(Below.heap_setCell _ _ _ _ hq).trans (Below.heap_setCell _ _ _ _ hq)
 have hw1:w.heap.size<=w1.heap.size:=Nat.le_trans (by simp) gr.size;refine⟨hbx,(h.at_.keepS hS).mono (Nat.le_of_lt hb) hB.size,hB.os.trans (h.os.trans gr.os),hB.tape.trans (h.tape.trans gr.tape),hB.output.trans (h.output.trans gr.output),Nat.le_trans hw1 (Nat.le_trans h.size hB.size),fun q h1 h2=>?_⟩;exact(hB.block q h1).trans ((h.low q (by omega) h2).trans ((gr.block q (by simp;omega) (fun e=>h2 (by injection e))).trans (Below.heap_alloc _ _ _ h1)))
theorem LsO.spo{w w':World}{lab:Nat->Nat × Nat × Nat}{base sb B:Nat}{s:Sr}{G n c:Nat}{xs:List Xf}{pv iv:Nat->Value}{av:Nat->Nat->Value}(h:LsO w w' lab base sb B s G n c xs pv iv av):Vh w w' base sb (some ⟨G,0,none⟩) xs:=⟨h.fn.at_,h.os,h.tape,h.output,h.size,h.low⟩
def DrE(F:Fn)(w:World)(sb:Nat)(e:Ending)(w':World):Prop:=SpE F w w.heap.size sb e w'/\F.blocks.length+Xn F.blocks<=1048576
theorem ZdR(sb B:Nat)(s:Sr)(w:World)(h:Hid (Zs w sb B s)) :
 Calls Tryz.prog 32 #[.pointer (some ⟨sb,0,none⟩)] w fun e w'=>DrE (drawF s) w sb e w':=by
 have HP:Hid (drawF s=if (nextP s 30).1<3 then ⟨(XA (nextP s 30).2 false).1.values,(ZC (XA (nextP s 30).2 false).1.values.toNat (XA (nextP s 30).2 false).1.blocks (XA (nextP s 30).2 false).2).1⟩else if (nextP s 30).1=3 then (XA (nextP s 30).2 true).1 else if (nextP s 30).1<7 then XB (XA (nextP s 30).2 false).1.values.toNat (XA (nextP s 30).2 false).1.blocks (XA (nextP s 30).2 false).2 else (XA (nextP s 30).2 false).1):=Xa rfl;have hbw:Hid (B<=w.heap.size):=Xa h.sB;have hsb:Hid (sb<w.heap.size):=Xa (by have:=h.bB;have:=h.sB;omega);have HB0:=Xa (h.box (.cells #[.int .i64 0,.slice none 0 0] 25))
 go_enter Tryz.func32,Tryz.ntmps32
 go_wp2_with fail
 refine(Xv sb B s 30 _ HB0 (by omega) (by omega)).mono ?_;rintro e w1 ⟨rfl,hd,hg⟩;have hl:=Xx s (n:=30) (by omega);obtain⟨k,s1,hrs⟩:∃r s9,nextP s 30=(r,s9):=⟨_,_,rfl⟩;rw[hrs]at hd HP hl |-;dsimp only at hd HP hl |-;have HD:=Xa hd;have HG:=Xa hg;have hw1:Hid (w.heap.size<w1.heap.size):=Xa (Nat.lt_of_lt_of_le (by simp) hg.size);clear hd hg hrs h HB0;by_cases h3:k<3
 ·rw[if_pos h3]at HP
  go_wp2_with fail
  refine(Za1 sb B s1 false w1 HD).mono ?_;rintro e w2 ⟨lab,G,n,c,pv,iv,av,V,rfl,hv,hgd⟩;have HGD:=Xa hgd;have HV:=Xa hv;clear hgd hv;rw[HV.out,Int.toNat_natCast]at HP;have HTL:=Xa (Zev (V:=V) (s:=(XA s1 false).2) (TY s1 false) HGD.sml)
  go_wp2_with fail
  refine(Ze8 V G n c (XA s1 false).1.blocks lab w1.heap.size pv iv av sb B (XA s1 false).2 w2 (Xa HGD.fn) (Xa HGD.len) HGD.n1 HGD.n11 HGD.gr.size (Xa HGD.fr) (Xa HGD.dr) (by have:=hbw.out;have:=hw1.out;omega) HGD.v (Xa HGD.sml) (Xa HGD.arg)).mono ?_;rintro e w3 ⟨rfl,hls⟩;have HLS:=Xa (Vh.after HGD.gr (Nat.le_refl _) hls.spo);clear hls;have HF:Hid (∀u0 u1,Bx w3 w.heap.size #[.int .i64 0,.slice none 0 0] 25/\Vh w ((w3.setCell ⟨w.heap.size,0,none⟩ u0).setCell ⟨w.heap.size,1,none⟩ u1) w.heap.size sb (some ⟨G,0,none⟩) (ZC V (XA s1 false).1.blocks (XA s1 false).2).1):=Xa (fun u0 u1=>Vh.fin (u0:=u0) (u1:=u1) hsb.out HG.out hw1.out HLS.out);have f0:w3.cell? ⟨w.heap.size,0,none⟩=some (.int .i64 0):=Bx.cell (HF.out undef undef).1 rfl;have f1:w3.cell? ⟨w.heap.size,1,none⟩=some (.slice none 0 0):=Bx.cell (HF.out undef undef).1 rfl;have fz:=Bx.thaw (HF.out undef undef).1;go_wp2;rw[HP.out];refine bodyPost_ret (v:=.agg #[.int .i64 (V:Int),.slice (some ⟨G,0,none⟩) n c]) (by simp[results,Tryz.results32,go_sem,f0,f1]) rfl ⟨⟨_,n,_,rfl,?_,(HF.out _ _).2⟩,Zaq (by show(ZC V (XA s1 false).1.blocks (XA s1 false).2).1.length<=12;rw[HTL.1];have:=HGD.len;have:=HGD.n11;omega) HTL.2⟩;show n=(ZC V (XA s1 false).1.blocks (XA s1 false).2).1.length;rw[HTL.1];exact HGD.len
 ·rw[if_neg h3]at HP
  by_cases h4:k=3
  ·have hk:(k==3)=true:=by simpa using h4
   rw[if_pos h4]at HP;clear h4
   go_wp2_with fail
   refine(Za1 sb B s1 true w1 HD).mono ?_;rintro e w2 ⟨lab,G,n,c,pv,iv,av,V,rfl,hv,hgd⟩;have HGD:=Xa hgd;have HV:=Xa hv;clear hgd hv;have HF:Hid (∀u0 u1,Bx w2 w.heap.size #[.int .i64 0,.slice none 0 0] 25/\Vh w ((w2.setCell ⟨w.heap.size,0,none⟩ u0).setCell ⟨w.heap.size,1,none⟩ u1) w.heap.size sb (some ⟨G,0,none⟩) (XA s1 true).1.blocks):=Xa (fun u0 u1=>Vh.fin (u0:=u0) (u1:=u1) hsb.out HG.out hw1.out HGD.spo);have f0:w2.cell? ⟨w.heap.size,0,none⟩=some (.int .i64 0):=Bx.cell (HF.out undef undef).1 rfl;have f1:w2.cell? ⟨w.heap.size,1,none⟩=some (.slice none 0 0):=Bx.cell (HF.out undef undef).1 rfl;have fz:=Bx.thaw (HF.out undef undef).1;go_wp2;rw[HP.out];refine bodyPost_ret (v:=.agg #[.int .i64 (V:Int),.slice (some ⟨G,0,none⟩) n c]) (by simp[results,Tryz.results32,go_sem,f0,f1]) rfl ⟨⟨_,n,_,by rw[HV.out],?_,(HF.out _ _).2⟩,Zaq (by have:=HGD.len;have:=HGD.n11;omega) (Vk (TY _ _) HGD.sml)⟩;exact HGD.len
  ·have hk:(k==3)=false:=by simpa using h4
   rw[if_neg h4]at HP;clear h4;by_cases h7:k<7
   ·rw[if_pos h7]at HP
    go_wp2_with fail
    refine(Za1 sb B s1 false w1 HD).mono ?_;rintro e w2 ⟨lab,G,n,c,pv,iv,av,V,rfl,hv,hgd⟩;have HGD:=Xa hgd;have HV:=Xa hv;clear hgd hv;rw[HV.out,Int.toNat_natCast]at HP;have HTL:=Xa (Zej (V:=V) (s:=(XA s1 false).2) (TY s1 false) HGD.sml)
    go_wp2_with fail
    refine(ZeD V G n c (XA s1 false).1.blocks lab w1.heap.size pv iv av sb B (XA s1 false).2 w2 (Xa HGD.fn) (Xa HGD.len) HGD.n1 HGD.n11 HGD.gr.size (Xa HGD.fr) (Xa HGD.dr) (by have:=hbw.out;have:=hw1.out;omega) HGD.v (Xa HGD.sml) (Xa HGD.arg)).mono ?_;rintro e w3 ⟨a,m,c',rfl,hm,hls⟩;have HLS:=Xa (Vh.after HGD.gr (Nat.le_refl _) hls);have HM:=Xa hm;clear hls hm;have HF:Hid (∀u0 u1,Bx w3 w.heap.size #[.int .i64 0,.slice none 0 0] 25/\Vh w ((w3.setCell ⟨w.heap.size,0,none⟩ u0).setCell ⟨w.heap.size,1,none⟩ u1) w.heap.size sb a (XB V (XA s1 false).1.blocks (XA s1 false).2).blocks):=Xa (fun u0 u1=>Vh.fin (u0:=u0) (u1:=u1) hsb.out HG.out hw1.out HLS.out);have f0:w3.cell? ⟨w.heap.size,0,none⟩=some (.int .i64 0):=Bx.cell (HF.out undef undef).1 rfl;have f1:w3.cell? ⟨w.heap.size,1,none⟩=some (.slice none 0 0):=Bx.cell (HF.out undef undef).1 rfl;have fz:=Bx.thaw (HF.out undef undef).1;go_wp2;rw[HP.out];refine bodyPost_ret (v:=.agg #[.int .i64 (XB V (XA s1 false).1.blocks (XA s1 false).2).values,.slice a m c']) (by simp[results,Tryz.results32,go_sem,f0,f1]) rfl ⟨⟨_,m,_,rfl,?_,(HF.out _ _).2⟩,Zaq (Nat.le_trans HTL.1 (by have:=HGD.len;have:=HGD.n11;omega)) HTL.2⟩;exact HM.out
   ·rw[if_neg h7]at HP
    go_wp2_with fail
    refine(Za1 sb B s1 false w1 HD).mono ?_;rintro e w2 ⟨lab,G,n,c,pv,iv,av,V,rfl,hv,hgd⟩;have HGD:=Xa hgd;have HV:=Xa hv;clear hgd hv;have HF:Hid (∀u0 u1,Bx w2 w.heap.size #[.int .i64 0,.slice none 0 0] 25/\Vh w ((w2.setCell ⟨w.heap.size,0,none⟩ u0).setCell ⟨w.heap.size,1,none⟩ u1) w.heap.size sb (some ⟨G,0,none⟩) (XA s1 false).1.blocks):=Xa (fun u0 u1=>Vh.fin (u0:=u0) (u1:=u1) hsb.out HG.out hw1.out HGD.spo);have f0:w2.cell? ⟨w.heap.size,0,none⟩=some (.int .i64 0):=Bx.cell (HF.out undef undef).1 rfl;have f1:w2.cell? ⟨w.heap.size,1,none⟩=some (.slice none 0 0):=Bx.cell (HF.out undef undef).1 rfl;have fz:=Bx.thaw (HF.out undef undef).1;go_wp2;rw[HP.out];refine bodyPost_ret (v:=.agg #[.int .i64 (V:Int),.slice (some ⟨G,0,none⟩) n c]) (by simp[results,Tryz.results32,go_sem,f0,f1]) rfl ⟨⟨_,n,_,by rw[HV.out],?_,(HF.out _ _).2⟩,Zaq (by have:=HGD.len;have:=HGD.n11;omega) (Vk (TY _ _) HGD.sml)⟩;exact HGD.len
end Go.Proofs.YtkehcdfalcakmaaGreatDoor
namespace Go.Proofs.YtkehcdfalcakmaaGreatDoor
open Go.RowKit
theorem Zu{w:World}{b t e base sz n:Nat}{cs:Array Value}{v:Value}{xs:List Value}(h:Bx w b cs t)(k:w.ownsRow base e sz v n xs)(hte:t≠e):some b≠v.ownBlock:=by
 intro hv;obtain⟨hl,⟨h0,_⟩ | ⟨g,cap,cur,e1,hg,hh,hc⟩⟩:=k
 ·subst h0;cases hv
 ·subst e1
  have:b=g:=by injection hv
  subst this;unfold Bx at h;rw[hh]at h;injection h with h;injection h with _ h2;exact hte h2.symm
theorem Zdg{w:World}{e e' base base' sz sz' n n':Nat}{v v':Value}{xs xs':List Value}(h:w.ownsRow base e sz v n xs)(k:w.ownsRow base' e' sz' v' n' xs')(hte:e≠e'){b:Nat}(hb:v.ownBlock=some b):some b≠v'.ownBlock:=by
 intro hv;obtain⟨hl,⟨h0,_⟩ | ⟨g,cap,cur,e1,hg,hh,hc⟩⟩:=h
 ·subst h0;cases hb
 ·obtain⟨hl',⟨h0,_⟩ | ⟨g',cap',cur',e1',hg',hh',hc'⟩⟩:=k
  ·subst h0;cases hv
  ·subst e1 e1'
   have q1:g=b:=by injection hb
   have q2:b=g':=by injection hv
   subst q1 q2;rw[hh]at hh';injection hh' with hh';injection hh' with _ h2;exact hte h2
end Go.Proofs.YtkehcdfalcakmaaGreatDoor
namespace Go.Proofs.YtkehcdfalcakmaaGreatDoor
open Go.RowKit
def ZO:XN:=⟨3,0,0,0⟩
def cst7:Xz:=⟨1,0,0,0,7⟩
def Zb9(i:Nat):Xz:=⟨1,i,0,0,i⟩
def Zb8:Xz:=⟨10,0,0,0,0⟩
def Wt(over k:Int)(s:Sr):Fn :=
 if k=0 then ⟨1,[⟨[],[⟨1,0,0,0,(1000000000+over)*(1-2*(nextP s 2).1)⟩],ZO⟩]⟩
 else if k=1 then ⟨1,[⟨[],[⟨2,0,0,0,7+over⟩],ZO⟩]⟩
 else if k=2 then ⟨2000+over,[⟨[],cst7::(List.range' 1 (1999+over.toNat)).map Zb9,ZO⟩]⟩
 else if k=3 then ⟨1,[⟨[],cst7::List.replicate (3998+over.toNat) Zb8,ZO⟩]⟩
 else ⟨1,⟨[],[cst7],ZO⟩ :: List.replicate (999+over.toNat) ⟨[],[],ZO⟩⟩
def limitP(s:Sr):Fn:=Wt (nextP s 2).1 (nextP (nextP s 2).2 5).1 (nextP (nextP s 2).2 5).2
def xCs(iv:Value):Array Value:=#[.slice none 0 0,iv,.int .i64 3,.int .i64 0,.int .i64 0,.int .i64 0]
def fCs(V:Int)(bv:Value):Array Value:=#[.int .i64 V,bv]
structure TV(w wr:World)(sb B:Nat)(s:Sr)(xb fb:Nat)(V:Int)(iv:Value)(is:List Xz):Prop where
 os:wr.os=w.os
 tape:wr.tape=w.tape
 output:wr.output=w.output
 size:w.heap.size<=wr.heap.size
 low:∀q,q<w.heap.size->q≠sb->wr.heap[q]?=w.heap[q]?
 res:Bx wr w.heap.size #[.int .i64 0,.slice none 0 0] 25
 dr:Zs wr sb B s
 bw:B<=w.heap.size
 bx:Bx wr xb (xCs iv) 43
 bf:Bx wr fb (fCs V (.slice none 0 0)) 25
 ne:w.heap.size≠fb
 xw:w.heap.size<=xb
 fw:w.heap.size<=fb
 own:wr.ownsRow w.heap.size 53 5 iv is.length (XD is)
variable {w wr w8 : World} {sb B : Nat} {s : Sr} {xb fb : Nat} {V : Int} {iv v8 : Value} {is : List Xz}
theorem ZcU(is:List Xz)(x:Xz):XD (is++[x])=XD is++x.cells:=by
 unfold XD;rw[Y8]
theorem TV.push(h:TV w wr sb B s xb fb V iv is)(x:Xz)(o:Obj)(hg:(wr.alloc o).grownBy w8 iv.ownBlock)(ho:w8.ownsRow w.heap.size 53 5 v8 (is.length+1) (XD is++x.cells)) :
 TV w (w8.setCell ⟨xb,1,none⟩ v8) sb B s xb fb V v8 (is++[x])/\Bx w8 xb (xCs iv) 43:=by
 have kb:∀q,q<wr.heap.size->some q≠iv.ownBlock->w8.heap[q]?=wr.heap[q]?:=fun q h1 h2=>(hg.block q (by rw[World.size_alloc];omega) h2).trans (Below.heap_alloc _ _ _ h1)
 have hx8:Bx w8 xb (xCs iv) 43:=h.bx.keep (kb xb h.bx.lt (Zu h.bx h.own (by decide)));have hf8:Bx w8 fb (fCs V (.slice none 0 0)) 25:=h.bf.keep (kb fb h.bf.lt (Zu h.bf h.own (by decide)));have hr8:Bx w8 w.heap.size #[.int .i64 0,.slice none 0 0] 25:=h.res.keep (kb _ h.res.lt (Zu h.res h.own (by decide)));have hne:xb≠fb:=fun e=>by
  have:=h.bx;rw[e]at this;have k:=h.bf;unfold Bx at this k;rw[this]at k;injection k with k;injection k with _ k;exact absurd k (by decide)
 have hne2:w.heap.size≠xb:=fun e=>by
  have:=h.bx;rw[<-e]at this;have k:=h.res;unfold Bx at this k;rw[this]at k;injection k with k;injection k with _ k;exact absurd k (by decide)
 have hsz:wr.heap.size<=w8.heap.size:=Nat.le_trans (by rw[World.size_alloc];omega) hg.size;have hlow:∀q,q<w.heap.size->some q≠iv.ownBlock:=fun q hq e=>by have:=(h.own.lt q e.symm).1;omega
 have b8:Below B wr w8:=⟨hg.os,hg.tape,hg.output,hsz,fun q hq=>kb q (Nat.lt_of_lt_of_le hq h.dr.sB) (hlow q (Nat.lt_of_lt_of_le hq h.bw))⟩;refine⟨⟨hg.os.trans h.os,hg.tape.trans h.tape,hg.output.trans h.output,?_,fun q h1 h2=>?_,hr8.other hne2,?_,h.bw,?_,hf8.other (fun e=>hne e.symm),h.ne,h.xw,h.fw,?_⟩,hx8⟩
 ·have:=h.size;simp[World.setCell];omega
 ·have hq:q≠xb:=by have:=h.xw;omega
  exact(Below.heap_setCell _ _ _ _ hq).trans ((kb q (Nat.lt_of_lt_of_le h1 h.size) (hlow q h1)).trans (h.low q h1 h2))
 ·exact(h.dr.keep b8).put (Nat.le_trans h.bw h.xw)
 ·exact hx8.set 1 v8
 ·have:=ownsRow_setCell_other ho (a:=⟨xb,1,none⟩) (fun e=>Zu hx8 ho (by decide) e.symm) v8
  rw[List.length_append,List.length_singleton,ZcU];exact this
theorem TV.vals(h:TV w wr sb B s xb fb V iv is)(V':Int):TV w (wr.setCell ⟨fb,0,none⟩ (.int .i64 V')) sb B s xb fb V' iv is:=by
 have hne:xb≠fb:=fun e=>by
  have:=h.bx;rw[e]at this;have k:=h.bf;unfold Bx at this k;rw[this]at k;injection k with k;injection k with _ k;exact absurd k (by decide)
 refine⟨h.os,h.tape,h.output,?_,fun q h1 h2=>?_,h.res.other h.ne,h.dr.put (Nat.le_trans h.bw h.fw),h.bw,h.bx.other hne,h.bf.set 0 _,h.ne,h.xw,h.fw,?_⟩
 ·have:=h.size;simp[World.setCell];omega
 ·exact(Below.heap_setCell _ _ _ _ (show q≠fb by have:=h.fw;omega)).trans (h.low q h1 h2)
 ·exact ownsRow_setCell_other h.own (a:=⟨fb,0,none⟩) (fun e=>Zu h.bf h.own (by decide) e.symm) _
theorem TV.one{g c:Nat}{x:Xz}(h:TV w wr sb B s xb fb V (.slice (some ⟨g,0,none⟩) 1 c) [x])(q:Nat)(u:Value)(y:Xz)(hy:x.cells.set q u=y.cells):TV w (wr.setCell ⟨g,q,none⟩ u) sb B s xb fb V (.slice (some ⟨g,0,none⟩) 1 c) [y]:=by
 have hg:=h.own.lt g rfl;have e1:XD [x]=x.cells:=by simp[XD,XW]
 have e2:XD [y]=y.cells:=by simp[XD,XW]
 have o:=h.own;refine⟨h.os,h.tape,h.output,?_,fun q h1 h2=>?_,h.res.other (fun e=>Zu h.res o (by decide) (by rw[e];rfl)),h.dr.put (Nat.le_trans h.bw hg.1),h.bw,h.bx.other (fun e=>Zu h.bx o (by decide) (by rw[e];rfl)),h.bf.other (fun e=>Zu h.bf o (by decide) (by rw[e];rfl)),h.ne,h.xw,h.fw,?_⟩
 ·have:=h.size;simp[World.setCell];omega
 ·exact(Below.heap_setCell _ _ _ _ (show _≠g by omega)).trans (h.low _ h1 h2)
 ·have:=Zdi (k:=q) o u
  rw[e1,hy]at this;rw[e2];exact this
def iv1(iv:Value)(i:Nat):Value:=if i=0 then iv else .slice none 0 0
structure LmB(w wr:World)(sb fb:Nat)(V:Int)(iv bv:Value)(xs:List Xf)(is:List Xz):Prop where
 os:wr.os=w.os
 tape:wr.tape=w.tape
 output:wr.output=w.output
 size:w.heap.size<=wr.heap.size
 low:∀q,q<w.heap.size->q≠sb->wr.heap[q]?=w.heap[q]?
 res:Bx wr w.heap.size #[.int .i64 0,.slice none 0 0] 25
 bf:Bx wr fb (fCs V bv) 25
 ne:w.heap.size≠fb
 fw:w.heap.size<=fb
 own:wr.ownsRow w.heap.size 53 5 iv is.length (XD is)
 bown:wr.ownsRow w.heap.size 43 6 bv xs.length (Xy YH (iv1 iv) xs)
theorem Zc5{pv iv:Nat->Value}(xs:List Xf)(x:Xf):Xy pv iv (xs++[x])=Xy pv iv xs++Tk (pv xs.length) (iv xs.length) x.term:=by
 unfold Xy;rw[Y8,Nat.zero_add]
variable {bv : Value} {xs : List Xf}
theorem LmB.push(h:LmB w wr sb fb V iv bv xs is)(o:Obj)(x:Xf)(hg:(wr.alloc o).grownBy w8 bv.ownBlock)(ho:w8.ownsRow w.heap.size 43 6 v8 (xs.length+1) (Xy YH (iv1 iv) xs++Tk (.slice none 0 0) (iv1 iv xs.length) x.term)) :
 LmB w (w8.setCell ⟨fb,1,none⟩ v8) sb fb V iv v8 (xs++[x]) is/\Bx w8 fb (fCs V bv) 25:=by
 have kb:∀q,q<wr.heap.size->some q≠bv.ownBlock->w8.heap[q]?=wr.heap[q]?:=fun q h1 h2=>(hg.block q (by rw[World.size_alloc];omega) h2).trans (Below.heap_alloc _ _ _ h1)
 have hf8:Bx w8 fb (fCs V bv) 25:=h.bf.keep (kb fb h.bf.lt (Zu h.bf h.bown (by decide)));have hr8:Bx w8 w.heap.size #[.int .i64 0,.slice none 0 0] 25:=h.res.keep (kb _ h.res.lt (Zu h.res h.bown (by decide)));have hsz:wr.heap.size<=w8.heap.size:=Nat.le_trans (by rw[World.size_alloc];omega) hg.size;have hlow:∀q,q<w.heap.size->some q≠bv.ownBlock:=fun q hq e=>by have:=(h.bown.lt q e.symm).1;omega
 have ho2:w8.ownsRow w.heap.size 53 5 iv is.length (XD is):=YA h.own (fun b e=>kb b (h.own.lt b e).2 (Zdg h.own h.bown (by decide) e));refine⟨⟨hg.os.trans h.os,hg.tape.trans h.tape,hg.output.trans h.output,?_,fun q h1 h2=>?_,hr8.other h.ne,hf8.set 1 v8,h.ne,h.fw,?_,?_⟩,hf8⟩
 ·have:=h.size;simp[World.setCell];omega
 ·exact(Below.heap_setCell _ _ _ _ (show q≠fb by have:=h.fw;omega)).trans ((kb q (Nat.lt_of_lt_of_le h1 h.size) (hlow q h1)).trans (h.low q h1 h2))
 ·exact ownsRow_setCell_other ho2 (a:=⟨fb,1,none⟩) (fun e=>Zu hf8 ho2 (by decide) e.symm) _
 ·have:=ownsRow_setCell_other ho (a:=⟨fb,1,none⟩) (fun e=>Zu hf8 ho (by decide) e.symm) v8
  rw[List.length_append,List.length_singleton,Zc5];exact this
theorem TV.start(h:TV w wr sb B s xb fb V iv is):LmB w wr sb fb V iv (.slice none 0 0) [] is :=
 ⟨h.os,h.tape,h.output,h.size,h.low,h.res,h.bf,h.ne,h.fw,h.own,World.ownsRow_nil _ _ _ _⟩
theorem LmB.fin{a:Option Addr}{n c:Nat}{r:List Xf}{u0 u1:Value}(h:LmB w wr sb fb V iv (.slice a n c) (⟨[],is,ZO⟩ :: r) is)(hr:∀x∈r,x.phis=[]/\x.instrs=[]) :
 Vh w ((wr.setCell ⟨w.heap.size,0,none⟩ u0).setCell ⟨w.heap.size,1,none⟩ u1) w.heap.size sb a (⟨[],is,ZO⟩ :: r):=by
 have hB:=((Below.refl w.heap.size wr).setCell (p:=⟨w.heap.size,0,none⟩) (Nat.le_refl _) u0).setCell (p:=⟨w.heap.size,1,none⟩) (Nat.le_refl _) u1;have key:∀e base sz v m cs,wr.ownsRow base e sz v m cs->25≠e->((wr.setCell ⟨w.heap.size,0,none⟩ u0).setCell ⟨w.heap.size,1,none⟩ u1).ownsRow base e sz v m cs:=fun e base sz v m cs k hne=>by
  have h1:=Zu h.res k hne;exact ownsRow_setCell_other (ownsRow_setCell_other k (a:=⟨w.heap.size,0,none⟩) (fun q=>h1 q.symm) u0) (a:=⟨w.heap.size,1,none⟩) (fun q=>h1 q.symm) u1
 have hl:∀q,q<w.heap.size->q≠sb->((wr.setCell ⟨w.heap.size,0,none⟩ u0).setCell ⟨w.heap.size,1,none⟩ u1).heap[q]?=w.heap[q]?:=fun q h1 h2=>(hB.block q h1).trans (h.low q h1 h2)
 refine⟨?_,hB.os.trans h.os,hB.tape.trans h.tape,hB.output.trans h.output,Nat.le_trans h.size hB.size,hl⟩;have hf:Z5 ((wr.setCell ⟨w.heap.size,0,none⟩ u0).setCell ⟨w.heap.size,1,none⟩ u1) (fun b=>if (Value.slice a n c).ownBlock=some b then (1,0,0)else (3,0,0)) w.heap.size (.slice a n c) (⟨[],is,ZO⟩ :: r) YH (iv1 iv) (fun _=>YH):=by
  have hph:∀i (hi:i<((⟨[],is,ZO⟩:Xf)::r).length),((⟨[],is,ZO⟩:Xf)::r)[i].phis=[]:=fun i hi=>by
   cases i with
   | zero=>rfl
   | succ i=>exact(hr _ (List.getElem_mem _)).1
  refine⟨⟨key _ _ _ _ _ _ h.bown (by decide),fun b e=>if_pos e⟩,fun i hi=>?_,fun i hi=>?_,fun i hi j hj=>?_⟩
  ·rw[hph i hi];exact⟨World.ownsRow_nil _ _ _ _,fun b e=>by cases e⟩
  ·cases i with
   | zero=>exact⟨key _ _ _ _ _ _ h.own (by decide),fun b e=>if_neg (fun q=>Zdg h.own h.bown (by decide) e q.symm)⟩
   | succ i =>
    have e:((⟨[],is,ZO⟩:Xf)::r)[i+1].instrs=[]:=(hr _ (List.getElem_mem _)).2;rw[e];exact⟨World.ownsRow_nil _ _ _ _,fun b e=>by cases e⟩
  ·rw[hph i hi]at hj;exact absurd hj (Nat.not_lt_zero _)
 exact hf.at_
theorem TV.begin{w2:World}{o:Obj}(hG:(w.alloc (.cells #[.int .i64 0,.slice none 0 0] 25)).grownBy w2 (some sb))(hD:Zs w2 sb B s)(hsb:sb<w.heap.size)(hbw:B<=w.heap.size)(hg:((w2.alloc (.cells (xCs (.slice none 0 0)) 43)).alloc o).grownBy w8 none)(ho:w8.ownsRow w.heap.size 53 5 v8 1 cst7.cells) :
 TV w ((w8.setCell ⟨w2.heap.size,1,none⟩ v8).alloc (.cells (fCs 1 (.slice none 0 0)) 25)) sb B s w2.heap.size w8.heap.size 1 v8 [cst7]/\Bx w8 w2.heap.size (xCs (.slice none 0 0)) 43:=by
 have hz2:w.heap.size<w2.heap.size:=Nat.lt_of_lt_of_le (by simp) hG.size;have hz8:w2.heap.size+2<=w8.heap.size:=Nat.le_trans (by simp) hg.size;have kb:∀q,q<w2.heap.size->w8.heap[q]?=w2.heap[q]?:=fun q h1=>(hg.block q (by rw[World.size_alloc,World.size_alloc];omega) (by simp)).trans ((Below.heap_alloc _ _ _ (by rw[World.size_alloc];omega)).trans (Below.heap_alloc _ _ _ h1))
 have hx8:Bx w8 w2.heap.size (xCs (.slice none 0 0)) 43:=((Bx.new w2 _ _).box o).keep (hg.block _ (by rw[World.size_alloc,World.size_alloc];omega) (by simp));have hr2:Bx w2 w.heap.size #[.int .i64 0,.slice none 0 0] 25:=(Bx.new w _ _).grown hG (fun e=>by injection e;omega);have hr8:=hr2.keep (kb _ hz2);have hzs:(w8.setCell ⟨w2.heap.size,1,none⟩ v8).heap.size=w8.heap.size:=by simp[World.setCell]
 have b8:Below B w2 w8:=⟨hg.os,hg.tape,hg.output,by omega,fun q hq=>kb q (by omega)⟩;refine⟨⟨hg.os.trans hG.os,hg.tape.trans hG.tape,hg.output.trans hG.output,?_,fun q h1 h2=>?_,(hr8.other (by omega)).box _,?_,hbw,(hx8.set 1 v8).box _,?_,by omega,by omega,by omega,?_⟩,hx8⟩
 ·rw[World.size_alloc,hzs];omega
 ·exact(Below.heap_alloc _ _ _ (by rw[hzs];omega)).trans ((Below.heap_setCell _ _ _ _ (show q≠w2.heap.size by omega)).trans ((kb q (by omega)).trans ((hG.block q (by rw[World.size_alloc];omega) (fun e=>h2 (by injection e))).trans (Below.heap_alloc _ _ _ h1))))
 ·exact((hD.keep b8).put (by omega)).box _
 ·have:=Bx.new (w8.setCell ⟨w2.heap.size,1,none⟩ v8) (fCs 1 (.slice none 0 0)) 25
  rw[hzs]at this;exact this
 ·have:=(ownsRow_setCell_other ho (a:=⟨w2.heap.size,1,none⟩) (fun e=>Zu hx8 ho (by decide) e.symm) v8).alloc (.cells (fCs 1 (.slice none 0 0)) 25)
  have e:XD [cst7]=cst7.cells:=by simp[XD,XW]
  rw[e];exact this
theorem TV.next{w3:World}{s3:Sr}(h:TV w wr sb B s xb fb V iv is)(hd:Zs w3 sb B s3)(hg:wr.grownBy w3 (some sb))(hsb:sb<w.heap.size):TV w w3 sb B s3 xb fb V iv is:=by
 have kb:∀q,w.heap.size<=q->q<wr.heap.size->w3.heap[q]?=wr.heap[q]?:=fun q h1 h2=>hg.block q h2 (fun e=>by injection e;omega)
 exact⟨hg.os.trans h.os,hg.tape.trans h.tape,hg.output.trans h.output,Nat.le_trans h.size hg.size,fun q h1 h2=>(hg.block q (Nat.lt_of_lt_of_le h1 h.size) (fun e=>h2 (by injection e))).trans (h.low q h1 h2),h.res.keep (kb _ (Nat.le_refl _) h.res.lt),hd,h.bw,h.bx.keep (kb _ h.xw h.bx.lt),h.bf.keep (kb _ h.fw h.bf.lt),h.ne,h.xw,h.fw,YA h.own (fun b e=>kb b (h.own.lt b e).1 (h.own.lt b e).2)⟩
theorem TV.drew(h:TV w wr sb B s xb fb V iv is):TV w wr.drew sb B s xb fb V iv is:=⟨h.os,h.tape,h.output,h.size,h.low,h.res,h.dr.drew,h.bw,h.bx,h.bf,h.ne,h.xw,h.fw,h.own⟩
def Ve:Xf:=⟨[],[],ZO⟩
def T8(ov k:Int)(V:Int)(is:List Xz):Fn:=⟨V,⟨[],is,ZO⟩ :: (if k=4 then List.replicate (999+ov.toNat) Ve else [])⟩
def LmY(w wx:World)(sb fb:Nat)(V:Int)(iv:Value)(xs:List Xf)(is:List Xz):Prop:=∃bv,LmB w wx sb fb V iv bv xs is
def LmX(j:Int)(w wx:World)(sb B xb fb:Nat)(ov k:Int)(s2:Sr):Prop:=∃V iv is s,TV w wx sb B s xb fb V iv is/\((k<j->Wt ov k s2=T8 ov k V is)/\(¬k<j->V=1/\is=[cst7]/\s=s2))/\0<is.length/\is.length<=4001
end Go.Proofs.YtkehcdfalcakmaaGreatDoor
