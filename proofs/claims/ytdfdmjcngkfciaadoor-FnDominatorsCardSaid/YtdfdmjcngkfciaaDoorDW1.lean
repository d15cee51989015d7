import Derived.Test.YtdfdmjcngkfciaaDoorTN4
import Derived.Test.YtdfdmjcngkfciaaDoorDGm
import Derived.Test.YtdfdmjcngkfciaaDoorTN2
import Derived.Test.YtdfdmjcngkfciaaDoorSPd
import Derived.Test.YtdfdmjcngkfciaaDoorSPe
import Derived.Test.YtdfdmjcngkfciaaDoorSPf
import Derived.Test.YtdfdmjcngkfciaaDoorSPg
import Derived.Test.YtdfdmjcngkfciaaDoorSPh
import Derived.Test.YtdfdmjcngkfciaaDoorSPi
import Derived.Test.YtdfdmjcngkfciaaDoorSPj
import Derived.Test.YtdfdmjcngkfciaaDoorDR2
import Derived.Test.YtdfdmjcngkfciaaDoorDO1
namespace Go.Proofs.YtdfdmjcngkfciaaDoor
open Go.RowKit
theorem spoil_any (V G n c:Nat) (xs:List Blk) (lab:Nat→Nat × Nat × Nat) (base:Nat) (pv iv:Nat→Value) (av:Nat→Nat→Value) (sb B:Nat) (s:Sr) (w:World) (hF:Hid (FnL w lab base (.slice (some ⟨G,0,none⟩) n c) xs pv iv av)) (hn:Hid (n=xs.length)) (h1:1≤n) (hn2:n≤11) (hbs:base≤w.heap.size) (hfr:Hid (∀b,w.heap.size≤b→lab b=(0,0,0))) (hdr:Hid (DrA w sb B s)) (hbb:B≤base) (hV:V≤1000) (hsm:Hid (SmlB xs)) (harg:Hid (PhA xs)) :
  Calls Tryd.prog 30 #[.agg #[.int .i64 (V:Int),.slice (some ⟨G,0,none⟩) n c],.pointer (some ⟨sb,0,none⟩)] w fun e w'=>SpE (spoilP V xs s) w base sb e w':=by
 have hl:=next_lt s (n:=16) (by omega)
 by_cases hk1:(nextP s 16).1≤1
 ·exact spoil_d V G n c xs lab base pv iv av sb B s w hF hn h1 hn2 hbs hfr hdr hbb hV hsm harg (hide ⟨hl.1,hk1⟩)
 ·skip
  by_cases hk3:(nextP s 16).1≤3
  ·exact spoil_h V G n c xs lab base pv iv av sb B s w hF hn h1 hn2 hbs hfr hdr hbb hV hsm harg (hide ⟨by omega,hk3⟩)
  ·skip
   by_cases hk7:(nextP s 16).1≤7
   ·exact spoil_e V G n c xs lab base pv iv av sb B s w hF hn h1 hn2 hbs hfr hdr hbb hV hsm harg (hide ⟨by omega,hk7⟩)
   ·skip
    by_cases hk8:(nextP s 16).1≤8
    ·exact spoil_f V G n c xs lab base pv iv av sb B s w hF hn h1 hn2 hbs hfr hdr hbb hV hsm harg (hide ⟨by omega,hk8⟩)
    ·skip
     by_cases hk9:(nextP s 16).1≤9
     ·exact spoil_i V G n c xs lab base pv iv av sb B s w hF hn h1 hn2 hbs hfr hdr hbb hV hsm harg (hide ⟨by omega,hk9⟩)
     ·skip
      by_cases hk10:(nextP s 16).1≤10
      ·exact spoil_j V G n c xs lab base pv iv av sb B s w hF hn h1 hn2 hbs hfr hdr hbb hV hsm harg (hide ⟨by omega,hk10⟩)
      ·skip
       exact spoil_g V G n c xs lab base pv iv av sb B s w hF hn h1 hn2 hbs hfr hdr hbb hV hsm harg (hide ⟨by omega,by omega⟩)
noncomputable def drawF (s:Sr):Fn :=
 if (nextP s 30).1<3 then ⟨(goodP (nextP s 30).2 false).1.values,(looseP (goodP (nextP s 30).2 false).1.values.toNat (goodP (nextP s 30).2 false).1.blocks (goodP (nextP s 30).2 false).2).1⟩
 else if (nextP s 30).1=3 then (goodP (nextP s 30).2 true).1
 else if (nextP s 30).1<7 then spoilP (goodP (nextP s 30).2 false).1.values.toNat (goodP (nextP s 30).2 false).1.blocks (goodP (nextP s 30).2 false).2
 else (goodP (nextP s 30).2 false).1
structure GdO (w w':World) (sb B:Nat) (G n c:Nat) (lab:Nat→Nat × Nat × Nat) (pv iv:Nat→Value) (av:Nat→Nat→Value) (V:Nat) (xs:List Blk) (s':Sr):Prop where
 dr:DrA w' sb B s'
 gr:w.grownBy w' (some sb)
 fn:FnL w' lab w.heap.size (.slice (some ⟨G,0,none⟩) n c) xs pv iv av
 fr:∀b,w'.heap.size≤b→lab b=(0,0,0)
 len:n=xs.length
 n1:1≤n
 n11:n≤11
 v:V≤1000
 sml:SmlB xs
 arg:PhA xs
theorem good_o (sb B:Nat) (s:Sr) (dead:Bool) (w:World) (h:Hid (DrA w sb B s)) :
  Calls Tryd.prog 29 #[.pointer (some ⟨sb,0,none⟩),.bool dead] w fun e w'=>∃lab G n c pv iv av,∃V:Nat,e=.returned (.agg #[.int .i64 (V:Int),.slice (some ⟨G,0,none⟩) n c])∧(goodP s dead).1.values=(V:Int)∧GdO w w' sb B G n c lab pv iv av V (goodP s dead).1.blocks (goodP s dead).2:=by
 refine (good_any (hide turn_any) sb B s dead w h).mono ?_
 rintro e w' ⟨lab,G,n,c,pv,iv,av,rfl,h1,h2,h3,h4,h5,h6,h7,⟨V,h8,h9⟩,h10,h11⟩
 exact ⟨lab,G,n,c,pv,iv,av,V,by rw [h8],h8,h1,h2,h3,h4,h5,h6,h7,h9,h10,h11⟩
theorem GdO.spo {w w':World} {sb B G n c:Nat} {lab:Nat→Nat × Nat × Nat} {pv iv:Nat→Value} {av:Nat→Nat→Value} {V:Nat} {xs:List Blk} {s':Sr} (h:GdO w w' sb B G n c lab pv iv av V xs s'):SpO w w' w.heap.size sb (some ⟨G,0,none⟩) xs :=
 ⟨h.fn.at_,h.gr.os,h.gr.tape,h.gr.output,h.gr.size,fun q h1 h2=>h.gr.block q h1 (fun e=>h2 (by injection e))⟩
theorem SpO.after {w w1 w2:World} {base sb:Nat} {a:Option Addr} {xs:List Blk} (g:w.grownBy w1 (some sb)) (hb:base≤w.heap.size) (h:SpO w1 w2 base sb a xs):SpO w w2 base sb a xs :=
 ⟨h.at_,h.os.trans g.os,h.tape.trans g.tape,h.output.trans g.output,Nat.le_trans g.size h.size,fun q h1 h2=>(h.low q h1 h2).trans (g.block q (by omega) (fun e=>h2 (by injection e)))⟩
theorem SpO.fin {w w1 w3:World} {base sb:Nat} {a:Option Addr} {xs:List Blk} {u0 u1:Value} (hsb:sb<w.heap.size) (gr:(w.alloc (.cells #[.int .i64 0,.slice none 0 0] 25)).grownBy w1 (some sb)) (hb:w.heap.size<base) (h:SpO w1 w3 base sb a xs):Bx w3 w.heap.size #[.int .i64 0,.slice none 0 0] 25∧SpO w ((w3.setCell ⟨w.heap.size,0,none⟩ u0).setCell ⟨w.heap.size,1,none⟩ u1) w.heap.size sb a xs:=by
 have hbx:Bx w3 w.heap.size #[.int .i64 0,.slice none 0 0] 25:=((Bx.new w _ _).grown gr (fun e=>by injection e;omega)).keep (h.low _ hb (by omega))
 have hB:=((Below.refl w.heap.size w3).setCell (p:=⟨w.heap.size,0,none⟩) (Nat.le_refl _) u0).setCell (p:=⟨w.heap.size,1,none⟩) (Nat.le_refl _) u1
 have hS:Same base w3.heap.size w3 ((w3.setCell ⟨w.heap.size,0,none⟩ u0).setCell ⟨w.heap.size,1,none⟩ u1):=fun q h1 _=>by
  have hq:q≠w.heap.size:=by omega
  exact (Below.heap_setCell _ _ _ _ hq).trans (Below.heap_setCell _ _ _ _ hq)
 have hw1:w.heap.size≤w1.heap.size:=Nat.le_trans (by simp) gr.size
 refine ⟨hbx,(h.at_.keepS hS).mono (Nat.le_of_lt hb) hB.size,hB.os.trans (h.os.trans gr.os),hB.tape.trans (h.tape.trans gr.tape),hB.output.trans (h.output.trans gr.output),Nat.le_trans hw1 (Nat.le_trans h.size hB.size),fun q h1 h2=>?_⟩
 exact (hB.block q h1).trans ((h.low q (by omega) h2).trans ((gr.block q (by simp;omega) (fun e=>h2 (by injection e))).trans (Below.heap_alloc _ _ _ h1)))
theorem LsO.spo {w w':World} {lab:Nat→Nat × Nat × Nat} {base sb B:Nat} {s:Sr} {G n c:Nat} {xs:List Blk} {pv iv:Nat→Value} {av:Nat→Nat→Value} (h:LsO w w' lab base sb B s G n c xs pv iv av):SpO w w' base sb (some ⟨G,0,none⟩) xs:=⟨h.fn.at_,h.os,h.tape,h.output,h.size,h.low⟩
def DrE (F:Fn) (w:World) (sb:Nat) (e:Ending) (w':World):Prop:=SpE F w w.heap.size sb e w'∧F.blocks.length+blksTot F.blocks≤1048576
set_option maxHeartbeats 4000000 in
theorem drawF_any (sb B:Nat) (s:Sr) (w:World) (h:Hid (DrA w sb B s)) :
  Calls Tryd.prog 10 #[.pointer (some ⟨sb,0,none⟩)] w fun e w'=>DrE (drawF s) w sb e w':=by
 have HP:Hid (drawF s=if (nextP s 30).1<3 then ⟨(goodP (nextP s 30).2 false).1.values,(looseP (goodP (nextP s 30).2 false).1.values.toNat (goodP (nextP s 30).2 false).1.blocks (goodP (nextP s 30).2 false).2).1⟩ else if (nextP s 30).1=3 then (goodP (nextP s 30).2 true).1 else if (nextP s 30).1<7 then spoilP (goodP (nextP s 30).2 false).1.values.toNat (goodP (nextP s 30).2 false).1.blocks (goodP (nextP s 30).2 false).2 else (goodP (nextP s 30).2 false).1):=hide rfl
 have hbw:Hid (B≤w.heap.size):=hide h.out.sB
 have hsb:Hid (sb<w.heap.size):=hide (by have:=h.out.bB;have:=h.out.sB;omega)
 have HB0:=hide (h.out.box (.cells #[.int .i64 0,.slice none 0 0] 25))
 go_enter Tryd.func10,Tryd.ntmps10
 go_wp2_with fail
 refine (next_a sb B s 30 _ HB0 (by omega) (by omega)).mono ?_
 rintro e w1 ⟨rfl,hd,hg⟩
 have hl:=next_lt s (n:=30) (by omega)
 obtain ⟨k,s1,hrs⟩:∃r s9,nextP s 30=(r,s9):=⟨_,_,rfl⟩
 rw [hrs] at hd HP hl ⊢
 dsimp only at hd HP hl ⊢
 have HD:=hide hd
 have HG:=hide hg
 have hw1:Hid (w.heap.size<w1.heap.size):=hide (Nat.lt_of_lt_of_le (by simp) hg.size)
 clear hd hg hrs h HB0
 by_cases h3:k<3
 ·rw [if_pos h3] at HP
  go_wp2_with fail
  refine (good_o sb B s1 false w1 HD).mono ?_
  rintro e w2 ⟨lab,G,n,c,pv,iv,av,V,rfl,hv,hgd⟩
  have HGD:=hide hgd
  have HV:=hide hv
  clear hgd hv
  rw [HV.out,Int.toNat_natCast] at HP
  have HTL:=hide (loose_tot (V:=V) (s:=(goodP s1 false).2) (good_ph3 s1 false) HGD.out.sml)
  go_wp2_with fail
  refine (loose_any V G n c (goodP s1 false).1.blocks lab w1.heap.size pv iv av sb B (goodP s1 false).2 w2 (hide HGD.out.fn) (hide HGD.out.len) HGD.out.n1 HGD.out.n11 HGD.out.gr.size (hide HGD.out.fr) (hide HGD.out.dr) (by have:=hbw.out;have:=hw1.out;omega) HGD.out.v (hide HGD.out.sml) (hide HGD.out.arg)).mono ?_
  rintro e w3 ⟨rfl,hls⟩
  have HLS:=hide (SpO.after HGD.out.gr (Nat.le_refl _) hls.spo)
  clear hls
  have HF:Hid (∀u0 u1,Bx w3 w.heap.size #[.int .i64 0,.slice none 0 0] 25∧SpO w ((w3.setCell ⟨w.heap.size,0,none⟩ u0).setCell ⟨w.heap.size,1,none⟩ u1) w.heap.size sb (some ⟨G,0,none⟩) (looseP V (goodP s1 false).1.blocks (goodP s1 false).2).1):=hide (fun u0 u1=>SpO.fin (u0:=u0) (u1:=u1) hsb.out HG.out hw1.out HLS.out)
  have f0:w3.cell? ⟨w.heap.size,0,none⟩=some (.int .i64 0):=Bx.cell (HF.out undef undef).1 rfl
  have f1:w3.cell? ⟨w.heap.size,1,none⟩=some (.slice none 0 0):=Bx.cell (HF.out undef undef).1 rfl
  have fz:=Bx.thaw (HF.out undef undef).1
  go_wp2
  rw [HP.out]
  refine bodyPost_ret (v:=.agg #[.int .i64 (V:Int),.slice (some ⟨G,0,none⟩) n c]) (by simp [results,Tryd.results10,go_sem,f0,f1]) rfl ⟨⟨_,n,_,rfl,?_,(HF.out _ _).2⟩,tot_of (by show (looseP V (goodP s1 false).1.blocks (goodP s1 false).2).1.length≤12;rw [HTL.out.1];have:=HGD.out.len;have:=HGD.out.n11;omega) HTL.out.2⟩
  show n=(looseP V (goodP s1 false).1.blocks (goodP s1 false).2).1.length
  rw [HTL.out.1]
  exact HGD.out.len
 ·rw [if_neg h3] at HP
  by_cases h4:k=3
  ·have hk:(k==3)=true:=by simpa using h4
   rw [if_pos h4] at HP
   clear h4
   go_wp2_with fail
   refine (good_o sb B s1 true w1 HD).mono ?_
   rintro e w2 ⟨lab,G,n,c,pv,iv,av,V,rfl,hv,hgd⟩
   have HGD:=hide hgd
   have HV:=hide hv
   clear hgd hv
   have HF:Hid (∀u0 u1,Bx w2 w.heap.size #[.int .i64 0,.slice none 0 0] 25∧SpO w ((w2.setCell ⟨w.heap.size,0,none⟩ u0).setCell ⟨w.heap.size,1,none⟩ u1) w.heap.size sb (some ⟨G,0,none⟩) (goodP s1 true).1.blocks):=hide (fun u0 u1=>SpO.fin (u0:=u0) (u1:=u1) hsb.out HG.out hw1.out HGD.out.spo)
   have f0:w2.cell? ⟨w.heap.size,0,none⟩=some (.int .i64 0):=Bx.cell (HF.out undef undef).1 rfl
   have f1:w2.cell? ⟨w.heap.size,1,none⟩=some (.slice none 0 0):=Bx.cell (HF.out undef undef).1 rfl
   have fz:=Bx.thaw (HF.out undef undef).1
   go_wp2
   rw [HP.out]
   refine bodyPost_ret (v:=.agg #[.int .i64 (V:Int),.slice (some ⟨G,0,none⟩) n c]) (by simp [results,Tryd.results10,go_sem,f0,f1]) rfl ⟨⟨_,n,_,by rw [HV.out],?_,(HF.out _ _).2⟩,tot_of (by have:=HGD.out.len;have:=HGD.out.n11;omega) (tot1_of (good_ph3 _ _) HGD.out.sml)⟩
   exact HGD.out.len
  ·have hk:(k==3)=false:=by simpa using h4
   rw [if_neg h4] at HP
   clear h4
   by_cases h7:k<7
   ·rw [if_pos h7] at HP
    go_wp2_with fail
    refine (good_o sb B s1 false w1 HD).mono ?_
    rintro e w2 ⟨lab,G,n,c,pv,iv,av,V,rfl,hv,hgd⟩
    have HGD:=hide hgd
    have HV:=hide hv
    clear hgd hv
    rw [HV.out,Int.toNat_natCast] at HP
    have HTL:=hide (spoil_tot (V:=V) (s:=(goodP s1 false).2) (good_ph3 s1 false) HGD.out.sml)
    go_wp2_with fail
    refine (spoil_any V G n c (goodP s1 false).1.blocks lab w1.heap.size pv iv av sb B (goodP s1 false).2 w2 (hide HGD.out.fn) (hide HGD.out.len) HGD.out.n1 HGD.out.n11 HGD.out.gr.size (hide HGD.out.fr) (hide HGD.out.dr) (by have:=hbw.out;have:=hw1.out;omega) HGD.out.v (hide HGD.out.sml) (hide HGD.out.arg)).mono ?_
    rintro e w3 ⟨a,m,c',rfl,hm,hls⟩
    have HLS:=hide (SpO.after HGD.out.gr (Nat.le_refl _) hls)
    have HM:=hide hm
    clear hls hm
    have HF:Hid (∀u0 u1,Bx w3 w.heap.size #[.int .i64 0,.slice none 0 0] 25∧SpO w ((w3.setCell ⟨w.heap.size,0,none⟩ u0).setCell ⟨w.heap.size,1,none⟩ u1) w.heap.size sb a (spoilP V (goodP s1 false).1.blocks (goodP s1 false).2).blocks):=hide (fun u0 u1=>SpO.fin (u0:=u0) (u1:=u1) hsb.out HG.out hw1.out HLS.out)
    have f0:w3.cell? ⟨w.heap.size,0,none⟩=some (.int .i64 0):=Bx.cell (HF.out undef undef).1 rfl
    have f1:w3.cell? ⟨w.heap.size,1,none⟩=some (.slice none 0 0):=Bx.cell (HF.out undef undef).1 rfl
    have fz:=Bx.thaw (HF.out undef undef).1
    go_wp2
    rw [HP.out]
    refine bodyPost_ret (v:=.agg #[.int .i64 (spoilP V (goodP s1 false).1.blocks (goodP s1 false).2).values,.slice a m c']) (by simp [results,Tryd.results10,go_sem,f0,f1]) rfl ⟨⟨_,m,_,rfl,?_,(HF.out _ _).2⟩,tot_of (Nat.le_trans HTL.out.1 (by have:=HGD.out.len;have:=HGD.out.n11;omega)) HTL.out.2⟩
    exact HM.out
   ·rw [if_neg h7] at HP
    go_wp2_with fail
    refine (good_o sb B s1 false w1 HD).mono ?_
    rintro e w2 ⟨lab,G,n,c,pv,iv,av,V,rfl,hv,hgd⟩
    have HGD:=hide hgd
    have HV:=hide hv
    clear hgd hv
    have HF:Hid (∀u0 u1,Bx w2 w.heap.size #[.int .i64 0,.slice none 0 0] 25∧SpO w ((w2.setCell ⟨w.heap.size,0,none⟩ u0).setCell ⟨w.heap.size,1,none⟩ u1) w.heap.size sb (some ⟨G,0,none⟩) (goodP s1 false).1.blocks):=hide (fun u0 u1=>SpO.fin (u0:=u0) (u1:=u1) hsb.out HG.out hw1.out HGD.out.spo)
    have f0:w2.cell? ⟨w.heap.size,0,none⟩=some (.int .i64 0):=Bx.cell (HF.out undef undef).1 rfl
    have f1:w2.cell? ⟨w.heap.size,1,none⟩=some (.slice none 0 0):=Bx.cell (HF.out undef undef).1 rfl
    have fz:=Bx.thaw (HF.out undef undef).1
    go_wp2
    rw [HP.out]
    refine bodyPost_ret (v:=.agg #[.int .i64 (V:Int),.slice (some ⟨G,0,none⟩) n c]) (by simp [results,Tryd.results10,go_sem,f0,f1]) rfl ⟨⟨_,n,_,by rw [HV.out],?_,(HF.out _ _).2⟩,tot_of (by have:=HGD.out.len;have:=HGD.out.n11;omega) (tot1_of (good_ph3 _ _) HGD.out.sml)⟩
    exact HGD.out.len
end Go.Proofs.YtdfdmjcngkfciaaDoor

namespace Go.Proofs.YtdfdmjcngkfciaaDoor
open Go.RowKit
structure DrO (F:Fn) (w w':World) (a:Option Addr) (m:Nat):Prop where
 len:m=F.blocks.length
 low:Below w.heap.size w w'
 at_:BlksAt w' w.heap.size w'.heap.size a F.blocks
 tot:F.blocks.length+blksTot F.blocks≤1048576
set_option maxHeartbeats 4000000 in
theorem drawA_any (a:Option Addr) (n c:Nat) (bs:List UInt8) (L B:Nat) (w:World) (ha:Hid (BytesAt w L B a bs)) (hx:Hid (n=bs.length)) (hn:n≤1048576) (hB:B≤w.heap.size) :
  Calls Tryd.prog 4 #[.slice a n c] w fun e w'=>∃a' m c',e=.returned (.agg #[.int .i64 (drawF (srcP bs)).values,.slice a' m c'])∧DrO (drawF (srcP bs)) w w' a' m:=by
 have HA:=hide (ha.out.keep (Below.alloc (Below.refl B w) hB (.cells #[.int .i64 0,.slice none 0 0] 25)))
 go_enter Tryd.func4,Tryd.ntmps4
 go_wp2_with fail
 refine (source_any a n c bs L B _ HA hx hn (by simp;omega)).mono ?_
 rintro e w1 ⟨rfl,hb1,hs1,hsr⟩
 rw [World.size_alloc] at hb1 hs1 hsr ⊢
 have HD:Hid (DrA w1 (w.heap.size+1) w1.heap.size (srcP bs)):=hide ⟨hsr,srcP_ok bs,hs1,Nat.le_refl _⟩
 have HB1:=hide hb1
 have hs2:w.heap.size+2≤w1.heap.size:=by omega
 clear hb1 hs1 hsr HA
 go_wp2_with fail
 refine (drawF_any (w.heap.size+1) w1.heap.size (srcP bs) w1 HD).mono ?_
 rintro e w2 ⟨⟨a',m,c',rfl,hm,ho⟩,ht⟩
 have HM:=hide hm
 have HO:=hide ho
 have HT:=hide ht
 clear hm ho ht
 have HBX:Hid (Bx w2 w.heap.size #[.int .i64 0,.slice none 0 0] 25):=hide (((Bx.new w _ _).keep (HB1.out.block _ (by omega))).keep (HO.out.low _ (by omega) (by omega)))
 have f0:w2.cell? ⟨w.heap.size,0,none⟩=some (.int .i64 0):=Bx.cell HBX.out rfl
 have f1:w2.cell? ⟨w.heap.size,1,none⟩=some (.slice none 0 0):=Bx.cell HBX.out rfl
 have fz:=Bx.thaw HBX.out
 go_wp2
 refine bodyPost_ret (v:=.agg #[.int .i64 (drawF (srcP bs)).values,.slice a' m c']) (by simp [results,Tryd.results4,go_sem,f0,f1]) rfl ⟨a',m,c',rfl,HM.out,?_,?_,HT.out⟩
 ·have k1:Below w.heap.size w w1:=(Below.alloc (Below.refl _ _) (Nat.le_refl _) _).trans (HB1.out.mono (by omega))
  have k2:Below w.heap.size w w2:=⟨HO.out.os.trans k1.os,HO.out.tape.trans k1.tape,HO.out.output.trans k1.output,Nat.le_trans k1.size HO.out.size,fun q hq=>(HO.out.low q (by omega) (by omega)).trans (k1.block q hq)⟩
  exact (k2.setCell (p:=⟨w.heap.size,0,none⟩) (Nat.le_refl _) _).setCell (p:=⟨w.heap.size,1,none⟩) (Nat.le_refl _) _
 ·have hS:Same w1.heap.size w2.heap.size w2 ((w2.setCell ⟨w.heap.size,0,none⟩ (.int .i64 (drawF (srcP bs)).values)).setCell ⟨w.heap.size,1,none⟩ (.slice a' m c')):=fun q h1 _=>by
   have hq:q≠w.heap.size:=by omega
   exact (Below.heap_setCell _ _ _ _ hq).trans (Below.heap_setCell _ _ _ _ hq)
  exact (HO.out.at_.keepS hS).mono (by omega) (by simp [World.setCell])
end Go.Proofs.YtdfdmjcngkfciaaDoor

namespace Go.Proofs.YtdfdmjcngkfciaaDoor
open Go.RowKit
set_option maxHeartbeats 1000000 in
theorem lwHas_any (a:Option Addr) (n c:Nat) (xs:List Int) (x:Int) (L B:Nat) (w:World) (ha:Hid (IntsAt w L B a xs)) (hx:Hid (n=xs.length)) (hn:n≤1048576) :
  Calls Tryd.prog 9 #[.slice a n c,.int .i64 x] w fun e w'=>e=.returned (.bool (xs.contains x))∧w'=w:=by
 go_enter Tryd.func9,Tryd.ntmps9
 go_wp2
 go_loopw [5] (fun u wr=>∃k:Nat,k≤n∧u=.int .i64 k∧wr=w∧Hid ((xs.take k).contains x=false)) (fun u _=>n-(intOf u).toNat)
 case atStart=>exact ⟨0,Nat.zero_le _,rfl,rfl,hide (by simp)⟩
 case round =>
  obtain ⟨k,hk,rfl,hw,HC⟩:=hrel
  have ew:=hw.symm
  subst ew
  by_cases hlt:k<n
  ·have hkx:k<xs.length:=by have:=hx.out;omega
   obtain ⟨b,o,rfl,hb,hc⟩:=ha.out k hkx
   by_cases he:xs[k]=x
   ·have hcb:(xs[k]==x)=true:=by simpa using he
    have HT:Hid (xs.contains x=true):=hide (by rw [List.contains_iff_mem,←he];exact List.getElem_mem hkx)
    clear he
    generalize xs[k]=z at *
    go_wp2
    go_ret
    simpa using HT.out
   ·have hcb:(xs[k]==x)=false:=by simpa using he
    have HT:Hid ((xs.take (k+1)).contains x=false):=hide (by
     have h1:=HC.out
     rw [List.take_succ_eq_append_getElem hkx]
     simp only [List.contains_eq_mem,List.mem_append,decide_eq_false_iff_not] at h1 ⊢
     intro h
     rcases h with h | h
     ·exact h1 h
     ·simp at h;exact he h.symm)
    clear he
    generalize xs[k]=z at *
    go_wp2
    exact ⟨⟨k+1,by omega,by go_num,trivial,HT⟩,by simp [intOf];omega⟩
  ·have hke:k=xs.length:=by have:=hx.out;omega
   have HT:Hid (xs.contains x=false):=hide (by have:=HC.out;rw [hke,List.take_length] at this;exact this)
   clear hke
   go_wp2
   go_ret
   simpa using HT.out
set_option maxHeartbeats 1000000 in
theorem lwAt_any (a:Option Addr) (m c:Nat) (bs:List UInt8) (i n:Nat) (L B:Nat) (w:World) (ha:Hid (BytesAt w L B a bs)) (hx:Hid (m=bs.length)) (hm:m≤1048576) (hi:i≤1000) (hn:n≤1000000) :
  Calls Tryd.prog 8 #[.slice a m c,.int .i64 (i:Int),.int .i64 (n:Int)] w fun e w'=>∃r:Nat,e=.returned (.int .i64 (r:Int))∧(1≤n→r<n)∧Below w.heap.size w w':=by
 by_cases h1:n≤1
 ·have h1I:(n:Int)≤1:=by omega
  go_enter Tryd.func8,Tryd.ntmps8
  go_wp2
  go_ret
  exact ⟨0,rfl,by omega,Below.refl _ _⟩
 ·have h1I:¬(n:Int)≤1:=by omega
  by_cases h0:m=0
  ·subst h0
   have hr:((i:Int)*7).tmod (n:Int)=(((i*7) % n:Nat):Int):=by
    rw [Int.tmod_eq_emod_of_nonneg (by omega)]
    rw [Int.natCast_emod]
    rfl
   have hnz:((n:Int)==0)=false:=by simp;omega
   have hlt:(i*7) % n<n:=Nat.mod_lt _ (by omega)
   go_enter Tryd.func8,Tryd.ntmps8
   go_wp2
   go_ret
   exact ⟨(i*7) % n,by rw [Int.natCast_emod,Int.natCast_mul];rfl,fun _=>hlt,Below.refl _ _⟩
  ·have h0b:((m:Int)==0)=false:=by simp;omega
   have hm0:0<m:=by omega
   have hq:i % m<bs.length:=by rw [←hx.out];exact Nat.mod_lt _ hm0
   obtain ⟨b,o,rfl,hb,hc⟩:=ha.out (i % m) hq
   have hby:bs[i % m].toNat<256:=UInt8.toNat_lt _
   have e1:(i:Int).tmod (m:Int)=((i % m:Nat):Int):=by rw [Int.tmod_eq_emod_of_nonneg (by omega),Int.natCast_emod]
   have e2:(i:Int).tdiv (m:Int)=((i / m:Nat):Int):=by rw [Int.tdiv_eq_ediv_of_nonneg (by omega),Int.natCast_ediv]
   have hqm:i % m<m:=Nat.mod_lt _ hm0
   have hdl:i / m≤1000:=Nat.le_trans (Nat.div_le_self _ _) hi
   generalize bs[i % m].toNat=z at *
   have e3:((z:Int)+((i / m:Nat):Int)).tmod (n:Int)=(((z+i / m) % n:Nat):Int):=by
    rw [Int.tmod_eq_emod_of_nonneg (Int.add_nonneg (Int.natCast_nonneg _) (Int.natCast_nonneg _)),Int.natCast_emod,Int.natCast_add]
   have hlt:(z+i / m) % n<n:=Nat.mod_lt _ (by omega)
   have HLT:=hide hlt
   clear hlt
   generalize hqg:i % m=q at *
   generalize hdg:i / m=d at *
   generalize (z+d) % n=r at *
   have hnz:((n:Int)==0)=false:=by simp;omega
   clear hqg hdg
   go_enter Tryd.func8,Tryd.ntmps8
   go_wp2
   go_region
   go_wp2
   go_ret
   exact ⟨r,rfl,fun _=>HLT.out,(Below.refl _ _).drew⟩
end Go.Proofs.YtdfdmjcngkfciaaDoor

namespace Go.Proofs.YtdfdmjcngkfciaaDoor
inductive Pth (tg:Nat→List Nat):List Nat→Nat→Prop
 | root:Pth tg [0] 0
 | step {p:List Nat} {b t:Nat}:Pth tg p b→t∈tg b→Pth tg (p++[t]) t
variable {tg : Nat → List Nat} {p : List Nat} {b : Nat}
theorem Pth.re (h:Pth tg p b):Re tg b:=by
 induction h with
 | root=>exact Re.root
 | step _ ht ih=>exact Re.step ih ht
theorem Pth.av (h:Pth tg p b) {x:Nat}:x ∉ p→Av tg x b:=by
 induction h with
 | root=>exact fun hx=>Av.root (fun e=>hx (by rw [e];simp))
 | step _ ht ih=>exact fun hx=>Av.step (ih (fun h=>hx (List.mem_append_left _ h))) ht (fun e=>hx (by rw [←e];simp))
theorem Pth.dom (h:Pth tg p b) {x:Nat} (hd:Dom tg x b):x∈p:=by
 apply Classical.byContradiction
 intro hx
 exact hd.no (h.av hx)
theorem Pth.last (h:Pth tg p b):∃q,p=q++[b]:=by
 cases h with
 | root=>exact ⟨[],rfl⟩
 | step h ht=>exact ⟨_,rfl⟩
theorem Pth.len (h:Pth tg p b):0<p.length:=by
 obtain ⟨q,rfl⟩:=h.last
 simp
theorem idom_at {n:Nat} {P:List Int} (h:IsIdm tg n P) (hn:∀x,Re tg x→x<n) (hb:Re tg b):(b=0∧P.getD 0 0=-1)∨(b≠0∧∃c:Nat,P.getD b 0=(c:Int)∧c<n∧c≠b∧Dom tg c b):=by
 by_cases h0:b=0
 ·subst h0
  refine Or.inl ⟨rfl,?_⟩
  rcases h.get 0 (hn 0 hb) with ⟨a,ha,_⟩ | ⟨_,e⟩
  ·exact absurd (dom_zero ha.dom) ha.ne
  ·exact e
 ·refine Or.inr ⟨h0,?_⟩
  obtain ⟨c,e,hc,hrc,hlt,hd⟩:=up_some h hn hb h0
  have hcb:c≠b:=fun e=>by rw [e] at hlt;omega
  exact ⟨c,e,hc,hcb,(hd c hcb).2 (dom_self hrc)⟩
end Go.Proofs.YtdfdmjcngkfciaaDoor

namespace Go.Proofs.YtdfdmjcngkfciaaDoor
open Go.RowKit
noncomputable def ldB:Code:=(Tryd.f3.body.getD .skip)
noncomputable def ldB1:Code:=(topL ldB).getD 0 .skip
noncomputable def ldB2:Code:=(topL ldB).getD 1 .skip
set_option maxRecDepth 100000 in
theorem spr13_list (f:Nat→Value):(List.range' 13 142).map f=(f 13::f 14::f 15::f 16::f 17::f 18::f 19::f 20::f 21::f 22::f 23::f 24::f 25::f 26::f 27::f 28::f 29::f 30::f 31::f 32::f 33::f 34::f 35::f 36::f 37::f 38::f 39::f 40::f 41::f 42::f 43::f 44::f 45::f 46::f 47::f 48::f 49::f 50::f 51::f 52::f 53::f 54::f 55::f 56::f 57::f 58::f 59::f 60::f 61::f 62::f 63::f 64::f 65::f 66::f 67::f 68::f 69::f 70::f 71::f 72::f 73::f 74::f 75::f 76::f 77::f 78::f 79::f 80::f 81::f 82::f 83::f 84::f 85::f 86::f 87::f 88::f 89::f 90::f 91::f 92::f 93::f 94::f 95::f 96::f 97::f 98::f 99::f 100::f 101::f 102::f 103::f 104::f 105::f 106::f 107::f 108::f 109::f 110::f 111::f 112::f 113::f 114::f 115::f 116::f 117::f 118::f 119::f 120::f 121::f 122::f 123::f 124::f 125::f 126::f 127::f 128::f 129::f 130::f 131::f 132::f 133::f 134::f 135::f 136::f 137::f 138::f 139::f 140::f 141::f 142::f 143::f 144::f 145::f 146::f 147::f 148::f 149::f 150::f 151::f 152::f 153::f 154::[]):=rfl
set_option maxRecDepth 100000 in
theorem spr13 (tl:List Value) (h:tl.length=142):∃f:Nat→Value,tl=(f 13::f 14::f 15::f 16::f 17::f 18::f 19::f 20::f 21::f 22::f 23::f 24::f 25::f 26::f 27::f 28::f 29::f 30::f 31::f 32::f 33::f 34::f 35::f 36::f 37::f 38::f 39::f 40::f 41::f 42::f 43::f 44::f 45::f 46::f 47::f 48::f 49::f 50::f 51::f 52::f 53::f 54::f 55::f 56::f 57::f 58::f 59::f 60::f 61::f 62::f 63::f 64::f 65::f 66::f 67::f 68::f 69::f 70::f 71::f 72::f 73::f 74::f 75::f 76::f 77::f 78::f 79::f 80::f 81::f 82::f 83::f 84::f 85::f 86::f 87::f 88::f 89::f 90::f 91::f 92::f 93::f 94::f 95::f 96::f 97::f 98::f 99::f 100::f 101::f 102::f 103::f 104::f 105::f 106::f 107::f 108::f 109::f 110::f 111::f 112::f 113::f 114::f 115::f 116::f 117::f 118::f 119::f 120::f 121::f 122::f 123::f 124::f 125::f 126::f 127::f 128::f 129::f 130::f 131::f 132::f 133::f 134::f 135::f 136::f 137::f 138::f 139::f 140::f 141::f 142::f 143::f 144::f 145::f 146::f 147::f 148::f 149::f 150::f 151::f 152::f 153::f 154::[]):=by
 have e:=range_map Value undef tl 13 (fun i=>tl.getD (i-13) undef) (fun i hi=>by simp [hi])
 rw [h] at e
 exact ⟨fun i=>tl.getD (i-13) undef,e.trans (spr13_list _)⟩
structure LdS (w wr:World) (D fb ab:Nat) (V:Int) (xs:List Blk) (a1:Option Addr) (m1 c1:Nat) (u0 u1 u3:Value) (g3 k3:Nat) (P:List Int):Prop where
 low:Below w.heap.size w wr
 wD:w.heap.size≤D
 fbx:Bx wr fb #[.int .i64 V,.slice a1 m1 c1] 25
 fD:fb<D
 at_:BlksAt wr 0 D a1 xs
 abx:Bx wr ab #[u0,u1,.slice (some ⟨g3,0,none⟩) m1 k3,u3] 31
 aD:ab<D
 row:wr.rowIs g3 2 m1 (fun z=>.int .i64 (P.getD z 0))
 gD:g3<D
 sz:D≤wr.heap.size
variable {w wr w' : World} {D fb ab : Nat} {V : Int} {xs : List Blk} {a1 : Option Addr} {m1 c1 : Nat} {u0 u1 u3 : Value} {g3 k3 : Nat} {P : List Int}
theorem LdS.keep (h:LdS w wr D fb ab V xs a1 m1 c1 u0 u1 u3 g3 k3 P) (k:Below D wr w'):LdS w w' D fb ab V xs a1 m1 c1 u0 u1 u3 g3 k3 P :=
 ⟨h.low.trans (k.mono h.wD),h.wD,h.fbx.keep (k.block _ h.fD),h.fD,h.at_.keep k,h.abx.keep (k.block _ h.aD),h.aD,h.row.of_block (k.block _ h.gD),h.gD,Nat.le_trans h.sz k.size⟩
structure LdP (w wr:World) (D fb ab:Nat) (V:Int) (xs:List Blk) (a1:Option Addr) (m1 c1:Nat) (u0 u1 u3:Value) (g3 k3:Nat) (P:List Int) (vp:Value) (p:List Nat) (b:Nat):Prop where
 s:LdS w wr D fb ab V xs a1 m1 c1 u0 u1 u3 g3 k3 P
 own:wr.ownsRow D 2 1 vp p.length (natV p)
 pth:Pth (tgN xs) p b
variable {vp vp' : Value} {p : List Nat} {b t : Nat}
theorem LdP.keep (h:LdP w wr D fb ab V xs a1 m1 c1 u0 u1 u3 g3 k3 P vp p b) (k:Below wr.heap.size wr w'):LdP w w' D fb ab V xs a1 m1 c1 u0 u1 u3 g3 k3 P vp p b :=
 ⟨h.s.keep (k.mono h.s.sz),own_same h.own (fun q e=>k.block q (h.own.lt q e).2),h.pth⟩
theorem LdP.drew (h:LdP w wr D fb ab V xs a1 m1 c1 u0 u1 u3 g3 k3 P vp p b):LdP w wr.drew D fb ab V xs a1 m1 c1 u0 u1 u3 g3 k3 P vp p b:=h.keep (Below.refl _ _).drew
theorem LdP.push {o:Obj} {n':Nat} (h:LdP w wr D fb ab V xs a1 m1 c1 u0 u1 u3 g3 k3 P vp p b) (hg:(wr.alloc o).grownBy w' vp.ownBlock) (ho:w'.ownsRow D 2 1 vp' n' (natV p++[.int .i64 (t:Int)])) (hn:n'=p.length+1) (ht:t∈tgN xs b):LdP w w' D fb ab V xs a1 m1 c1 u0 u1 u3 g3 k3 P vp' (p++[t]) t:=by
 have hB:Below D wr w':=(Below.alloc (Below.refl D wr) h.s.sz o).trans (grown_below (Below.refl _ _) hg (h.own.alloc o) (Nat.le_refl _) (Nat.le_trans h.s.sz (by simp)))
 subst hn
 refine ⟨h.s.keep hB,?_,h.pth.step ht⟩
 have e:natV (p++[t])=natV p++[.int .i64 (t:Int)]:=by simp [natV]
 rw [e,List.length_append]
 exact ho
theorem LdP.last (h:LdP w wr D fb ab V xs a1 m1 c1 u0 u1 u3 g3 k3 P vp p b):∃gp pc,vp=.slice (some ⟨gp,0,none⟩) p.length pc∧(D≤gp∧gp<wr.heap.size)∧wr.cell? ⟨gp,p.length-1,none⟩=some (.int .i64 (b:Int))∧1≤p.length:=by
 obtain ⟨gp,pc,rfl,hb⟩:=own_some' h.own h.pth.len
 refine ⟨gp,pc,rfl,hb.1,own_cell h.own ?_,h.pth.len⟩
 obtain ⟨q,rfl⟩:=h.pth.last
 simp [natV]
theorem LdP.ints (h:LdP w wr D fb ab V xs a1 m1 c1 u0 u1 u3 g3 k3 P vp p b):∃a c,vp=.slice a p.length c∧IntsAt wr D wr.heap.size a (p.map fun q:Nat=>(q:Int)):=by
 have:=h.own
 have e:natV p=(p.map fun q:Nat=>(q:Int)).map (Value.int .i64):=by simp [natV]
 rw [e] at this
 obtain ⟨a,c,e1,e2⟩:=ints_owned this
 rw [List.length_map] at e1
 exact ⟨a,c,e1,e2⟩
theorem ter_of_valid {v:Int} {xs:List Blk} (h:validI ⟨v,xs⟩=true) {b:Nat} (hb:b<xs.length):1≤xs[b].term.kind∧xs[b].term.kind≤3:=by
 simp only [validI,Bool.and_eq_true] at h
 obtain ⟨⟨⟨⟨_,h2⟩,_⟩,_⟩,_⟩:=h
 have:=List.all_eq_true.1 h2 _ (List.getElem_mem hb)
 simp only [terOk',terOk,Bool.and_eq_true,decide_eq_true_eq] at this
 exact ⟨this.1.1.1.1.1,this.1.1.1.1.2⟩
theorem tg_to {xs:List Blk} (hok:OkF xs) {b:Nat} (hb:b<xs.length) (hk:xs[b].term.kind=1∨xs[b].term.kind=2):∃t:Nat,xs[b].term.to=(t:Int)∧t∈tgN xs b∧t<xs.length:=by
 have hm:xs[b].term.to∈xs[b].term.targets:=by
  unfold Ter.targets
  rcases hk with hk | hk
  ·rw [if_pos hk];simp
  ·rw [if_neg (by omega),if_pos hk];simp
 have h1:=hok.tgt _ (List.getElem_mem hb) _ hm
 refine ⟨xs[b].term.to.toNat,by omega,?_,by omega⟩
 rw [tgN_at hb]
 exact List.mem_map.2 ⟨_,hm,rfl⟩
theorem tg_els {xs:List Blk} (hok:OkF xs) {b:Nat} (hb:b<xs.length) (hk:xs[b].term.kind=2):∃t:Nat,xs[b].term.els=(t:Int)∧t∈tgN xs b∧t<xs.length:=by
 have hm:xs[b].term.els∈xs[b].term.targets:=by
  unfold Ter.targets
  rw [if_neg (by omega),if_pos hk];simp
 have h1:=hok.tgt _ (List.getElem_mem hb) _ hm
 refine ⟨xs[b].term.els.toNat,by omega,?_,by omega⟩
 rw [tgN_at hb]
 exact List.mem_map.2 ⟨_,hm,rfl⟩
end Go.Proofs.YtdfdmjcngkfciaaDoor
