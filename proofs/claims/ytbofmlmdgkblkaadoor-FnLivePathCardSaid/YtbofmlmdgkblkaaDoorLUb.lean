import Derived.Test.YtbofmlmdgkblkaaDoorLI1
import Derived.Test.YtbofmlmdgkblkaaDoorZP0
import Derived.Test.YtbofmlmdgkblkaaDoorLU6
import Derived.ProofKit
import Derived.Lib.SmallJoins
import Derived.Test.YtbofmlmdgkblkaaDoorCards
import Derived.Test.YtbofmlmdgkblkaaDoorTie
import Derived.OpenShut
import Derived.OpenVars
import Derived.LaidMore
import Derived.Deep.DeepHandedRow
import Derived.Lib.LaidTab
namespace Go.Proofs.YtbofmlmdgkblkaaDoor
set_option maxHeartbeats 1000000
set_option maxRecDepth 100000
open Go.RowKit
theorem ZdB(v:Int)(a:Option Addr)(n c:Nat)(xs:List Xg)(L B:Nat)(w:World)(ha:Hid (Xy w L B a xs))(hx:Hid (n=xs.length))(hs:Hid (xs.length+X7 xs<=1048576))(hB:B<=w.heap.size)(hO:Hid (YG w))(hT:Hid (Ym w))(hv:Hid (Y7 ⟨v,xs⟩=false)) :
 Calls Tryd.prog 5 #[.agg #[.int .i64 v,.slice a n c]] w fun e w'=>e=.returned (.agg #[.slice none 0 0,.slice none 0 0])/\Below w.heap.size w w':=by
 have HVF:=Xa (fun W (hb:Below w.heap.size w W)=>Z2 v a n c xs L B W (Xa (ha.keep (hb.mono hB))) hx hs (by have:=hb.size;omega) (Xa (hO.keep hb hO.1).old) (Xa (hT.keep hb hT.1).old));rw[hv.out]at HVF
 go_enter Tryd.func5,Tryd.ntmps5
 go_wp2_with fail
 refine(HVF.out _ (Xb (Xb (Below.refl _ _) _) _)).mono ?_;rintro e w1 ⟨rfl,hb1⟩;have HB1:=Xa (Xj (Xb (Xb (Below.refl w.heap.size w) _) _) hb1);have hR1:w1.rowIs (w.heap.size+1) 29 2 (fun _=>.slice none 0 0):=by
  have h:=World.rowIs_alloc (w.alloc (.cells #[.int .i64 v,.slice a n c] 25)) #[.slice none 0 0,.slice none 0 0] 29 (fun _=>.slice none 0 0) (fun i hi=>by match i,hi with | 0,_=>rfl | 1,_=>rfl)
  rw[World.size_alloc]at h;exact h.of_block (hb1.block _ (by simp))
 have y0:=hR1.cell (i:=0) (by decide);have y1:=hR1.cell (i:=1) (by decide);have yf:=hR1.frozen;have y1':∀u,(w1.setCell ⟨w.heap.size+1,0,none⟩ u).cell? ⟨w.heap.size+1,1,none⟩=some (.slice none 0 0):=fun u=>(hR1.set 0 u).cell (i:=1) (by decide)
 have HR1:=Xa hR1;clear hb1 hR1 HVF
 go_wp2_with fail
 have h4:=(HR1.set 0 (.slice none 0 0)).set 1 (.slice none 0 0);have z0:=h4.cell (i:=0) (by decide);have z1:=h4.cell (i:=1) (by decide);have hB4:Below w.heap.size w ((w1.setCell ⟨w.heap.size+1,0,none⟩ (.slice none 0 0)).setCell ⟨w.heap.size+1,1,none⟩ (.slice none 0 0)):=(HB1.setCell (p:=⟨w.heap.size+1,0,none⟩) (by dsimp only;omega) _).setCell (p:=⟨w.heap.size+1,1,none⟩) (by dsimp only;omega) _;generalize (w1.setCell ⟨w.heap.size+1,0,none⟩ (.slice none 0 0)).setCell ⟨w.heap.size+1,1,none⟩ (.slice none 0 0)=wE at *;simp only[reduceIte,Nat.reduceEqDiff]at z0 z1;refine bodyPost_ret (v:=.agg #[.slice none 0 0,.slice none 0 0]) (by simp[results,Tryd.results5,go_sem,z0,z1]) rfl ⟨rfl,hB4⟩
theorem ZbZ(v:Int)(a:Option Addr)(n c:Nat)(k:Int)(xs:List Xg)(L B:Nat)(w:World)(ha:Hid (Xy w L B a xs))(hx:Hid (n=xs.length))(hs:Hid (xs.length+X7 xs<=1048576))(hB:B<=w.heap.size)(hO:Hid (YG w))(hT:Hid (Ym w))(hv:Y7 ⟨v,xs⟩=false\/(Y7 ⟨v,xs⟩=true/\k<0)\/(Y7 ⟨v,xs⟩=true/\0<=k/\(n:Int)<=k)) :
 Calls Tryd.prog 7 #[.agg #[.int .i64 v,.slice a n c],.int .i64 k] w fun e w'=>∃g,e=.returned (.slice (some ⟨g,0,none⟩) 0 0)/\Below w.heap.size w w':=by
 have HVF:=Xa (fun W (hb:Below w.heap.size w W)=>Z2 v a n c xs L B W (Xa (ha.keep (hb.mono hB))) hx hs (by have:=hb.size;omega) (Xa (hO.keep hb hO.1).old) (Xa (hT.keep hb hT.1).old));rcases hv with hv | ⟨hv,hk⟩ | ⟨hv,hk0,hk⟩
 ·rw[hv]at HVF
  clear hv
  go_enter Tryd.func7,Tryd.ntmps7
  go_wp2_with fail
  refine(HVF.out _ (Xb (Below.refl _ _) _)).mono ?_;rintro e w1 ⟨rfl,hb1⟩;have g0:=(hb1.cell (p:=⟨w.heap.size,0,none⟩) (by simp)).trans (show _=some (.int .i64 v) by simp);have g1:=(hb1.cell (p:=⟨w.heap.size,1,none⟩) (by simp)).trans (show _=some (.slice a n c) by simp);have HB1:=Xa (Xj (Xb (Below.refl w.heap.size w) (.cells #[.int .i64 v,.slice a n c] 25)) hb1);clear hb1 HVF
  go_wp2_with fail
  go_ret
  exact⟨w1.heap.size,rfl,Xb HB1.out _⟩
 ·rw[hv]at HVF
  clear hv
  go_enter Tryd.func7,Tryd.ntmps7
  go_wp2_with fail
  refine(HVF.out _ (Xb (Below.refl _ _) _)).mono ?_;rintro e w1 ⟨rfl,hb1⟩;have g0:=(hb1.cell (p:=⟨w.heap.size,0,none⟩) (by simp)).trans (show _=some (.int .i64 v) by simp);have g1:=(hb1.cell (p:=⟨w.heap.size,1,none⟩) (by simp)).trans (show _=some (.slice a n c) by simp);have HB1:=Xa (Xj (Xb (Below.refl w.heap.size w) (.cells #[.int .i64 v,.slice a n c] 25)) hb1);clear hb1 HVF
  go_wp2_with fail
  go_ret
  exact⟨w1.heap.size,rfl,Xb HB1.out _⟩
 ·rw[hv]at HVF
  clear hv;have hk1:¬(k<0):=by omega
  go_enter Tryd.func7,Tryd.ntmps7
  go_wp2_with fail
  refine(HVF.out _ (Xb (Below.refl _ _) _)).mono ?_;rintro e w1 ⟨rfl,hb1⟩;have g0:=(hb1.cell (p:=⟨w.heap.size,0,none⟩) (by simp)).trans (show _=some (.int .i64 v) by simp);have g1:=(hb1.cell (p:=⟨w.heap.size,1,none⟩) (by simp)).trans (show _=some (.slice a n c) by simp);have HB1:=Xa (Xj (Xb (Below.refl w.heap.size w) (.cells #[.int .i64 v,.slice a n c] 25)) hb1);clear hb1 HVF
  go_wp2_with fail
  go_ret
  exact⟨w1.heap.size,rfl,Xb HB1.out _⟩
end Go.Proofs.YtbofmlmdgkblkaaDoor
namespace Go.Proofs.YtbofmlmdgkblkaaDoor
set_option maxHeartbeats 8000000
set_option maxRecDepth 100000
open Go.RowKit
structure LuQ(w wr:World)(fb lb:Nat)(V:Int)(Vn:Nat)(xs:List Xg)(a1:Option Addr)(m1 c1 g0 k0:Nat)(X1:Value):Prop where
 low:Below w.heap.size w wr
 fbx:Bx wr fb #[.int .i64 V,.slice a1 m1 c1] 25
 at_:Xy wr 0 wr.heap.size a1 xs
 lbx:Bx wr lb #[.slice (some ⟨g0,0,none⟩) m1 k0,X1] 29
 gl:g0<wr.heap.size
 ins:∀b,b<m1->∃ia ic,wr.cell? ⟨g0,b,none⟩=some (.slice ia (TG xs Vn false b).length ic)/\Xe wr 0 wr.heap.size ia (TG xs Vn false b)
theorem LuQ.keep{w wr w':World}{fb lb:Nat}{V:Int}{Vn:Nat}{xs:List Xg}{a1:Option Addr}{m1 c1 g0 k0:Nat}{X1:Value}(h:LuQ w wr fb lb V Vn xs a1 m1 c1 g0 k0 X1)(k:Below wr.heap.size wr w'):LuQ w w' fb lb V Vn xs a1 m1 c1 g0 k0 X1:=by
 refine⟨h.low.trans (k.mono h.low.size),h.fbx.keep (k.block _ h.fbx.lt),(h.at_.keep k).mono (Nat.le_refl _) k.size,h.lbx.keep (k.block _ h.lbx.lt),Nat.lt_of_lt_of_le h.gl k.size,fun b hb=>?_⟩;obtain⟨ia,ic,h1,h2⟩:=h.ins b hb;exact⟨ia,ic,(Xc (k.block _ h.gl)).trans h1,(h2.keep k).mono (Nat.le_refl _) k.size⟩
theorem LiA.use{w w':World}{n:Nat}{P:Bool->Nat->List Int}{e:Ending}(h:LiA w w' n P e)(hn:1<=n):∃g0 k0 g1 k1,e=.returned (.agg #[.slice (some ⟨g0,0,none⟩) n k0,.slice (some ⟨g1,0,none⟩) n k1])/\Below w.heap.size w w'/\g0<w'.heap.size/\∀b,b<n->∃ia ic,w'.cell? ⟨g0,b,none⟩=some (.slice ia (P false b).length ic)/\Xe w' 0 w'.heap.size ia (P false b):=by
 obtain⟨w0,Fo,U,X,wr,rfl,hw0,hG,hB,hsz,hh⟩:=h;obtain⟨g0,k0,e0,hg0⟩:=Xh (hG.oo false) (by omega);obtain⟨g1,k1,e1,-⟩:=Xh (hG.oo true) (by omega);have ho:=hG.oo false;rw[e0]at ho;refine⟨g0,k0,g1,k1,by rw[e0,e1],hB,by rw[hsz];exact hg0.1.2,fun b hb=>?_⟩;obtain⟨a,c,ea,ha⟩:=Xn (hG.own false b hb);refine⟨a,c,?_,fun i hi=>?_⟩
 ·rw[Xc (hh g0 hg0.1.1)]
  refine Zx ho ?_;rw[List.getElem?_map,List.getElem?_range hb];simp only[Option.map_some];rw[ea]
 ·obtain⟨q,o,e2,hq,hc⟩:=ha i hi
  exact⟨q,o,e2,⟨Nat.zero_le _,by rw[hsz];exact hq.2⟩,(Xc (hh q hq.1)).trans hc⟩
theorem PoA.use{w w':World}{m:Nat}{P:Nat->List Int}{e:Ending}(h:PoA w w' m P e)(hm:1<=m):∃G sa sc,e=.returned (.slice (some ⟨G,0,none⟩) m m)/\Below w.heap.size w w'/\G<w'.heap.size/\w'.cell? ⟨G,0,none⟩=some (.slice sa (P 0).length sc)/\Xe w' 0 w'.heap.size sa (P 0):=by
 obtain⟨base,G,U,rfl,-,hB,hr⟩:=h;obtain⟨a,c,ea,ha⟩:=Xn (hr.own 0 hm);refine⟨G,a,c,rfl,hB,hr.row.lt,?_,ha.mono (Nat.zero_le _) (Nat.le_refl _)⟩;rw[hr.row.cell hm,ea]
theorem Zg7{xs:List Xg}{V b:Nat}{x:Xg}(hV:V<=2000):(TG xs V false b).length<=100000/\(Xk (ptP xs x V b 0)).length<=100000:=by
 unfold TG ptP Xk;rw[List.length_map,List.length_map];refine⟨Nat.le_trans (List.length_filter_le _ _) (by rw[List.length_range];omega),Nat.le_trans (List.length_filter_le _ _) (by rw[List.length_range];omega)⟩
theorem ZgG{v:Int}{xs:List Xg}(h:Y7 ⟨v,xs⟩=true):∃n:Nat,v=(n:Int):=by
 simp only[Y7,Bool.and_eq_true]at h;obtain⟨⟨⟨⟨h1,_⟩,_⟩,_⟩,_⟩:=h;simp only[Y6,Bool.and_eq_true,decide_eq_true_eq]at h1;exact Int.eq_ofNat_of_zero_le h1.1.1.1.1
theorem Zd7(ca ma:Option Addr)(n cc m mc:Nat)(bs ms:List UInt8)(w:World)(ha:Hid (Yg w 0 w.heap.size ca bs))(hx:Hid (n=bs.length))(hn:n<=9223372036854775807)(hma:Hid (Yg w 0 w.heap.size ma ms))(hmx:Hid (m=ms.length))(hm:m<=9223372036854775807)(hO:Hid (YG w))(hT:Hid (Ym w))(hTz:Hid (Jz w))(hTl:Hid (2 < w.heap.size)) :
 Calls Tryd.prog 3 #[.slice ca n cc,.slice ma m mc] w fun e w'=>e=.returned (.bool true)/\Below w.heap.size w w':=by
 by_cases hn1:n<=1048576
 ·by_cases hm1:m<=1048576
  ·have hn1I:¬(1048576:Int)<n:=by omega
   have hm1I:¬(1048576:Int)<m:=by omega
   have HDR:=Xa (fun W (hb:Below w.heap.size w W)=>ZdN ca n cc bs 0 w.heap.size W (Xa (ha.keep hb)) hx hn1 hb.size);have HTO:=Xa (fun W (hb:Below w.heap.size w W)=>hO.keep hb hO.1);have HTT:=Xa (fun W (hb:Below w.heap.size w W)=>hT.keep hb hT.1);have HTZ:=Xa (fun W (hb:Below w.heap.size w W)=>hTz.of_block (hb.block _ hTl.out));generalize drawF (UW bs)=F at *;obtain⟨V,xs⟩:=F;dsimp only at HDR;clear ha hx hO hT hTz hTl
   go_enter Tryd.func3,Tryd.ntmps3
   go_wp2_with fail
   refine(HDR.out w (Below.refl _ _)).mono ?_;rintro e w1 ⟨a1,m1,c1,rfl,hdo⟩;have HD1:=Xa hdo
   clear hdo
   go_wp2_with fail
   have HB1:Hid (Below w.heap.size w (w1.alloc (.cells #[.int .i64 V,.slice a1 m1 c1] 25))):=Xa (Below.alloc HD1.low HD1.low.size _);have HF1:Hid (Bx (w1.alloc (.cells #[.int .i64 V,.slice a1 m1 c1] 25)) w1.heap.size #[.int .i64 V,.slice a1 m1 c1] 25):=Xa (Bx.new _ _ _);have HA1:Hid (Xy (w1.alloc (.cells #[.int .i64 V,.slice a1 m1 c1] 25)) 0 w1.heap.size a1 xs):=Xa ((HD1.at_.keep (Below.alloc (Below.refl _ _) (Nat.le_refl _) _)).mono (Nat.zero_le _) (Nat.le_refl _));have HL1:=Xa HD1.len;have HT1:=Xa HD1.tot;clear HD1;generalize w1.alloc (.cells #[.int .i64 V,.slice a1 m1 c1] 25)=wf at *;generalize w1.heap.size=fb at *;refine(HDR.out wf HB1.out).mono ?_;rintro e w2 ⟨a2,m2,c2,rfl,hdo⟩;have HD2:=Xa hdo
   have HB2:=Xa (HB1.trans (hdo.low.mono HB1.size));have HF2:=Xa (HF1.keep (hdo.low.block _ HF1.lt));have HA2:=Xa ((HA1.keep (B:=fb) (hdo.low.mono (Nat.le_of_lt HF1.lt))));clear hdo HB1 HF1 HA1
   go_wp2_with fail
   cases hval:Y7 ⟨V,xs⟩with
   | false =>
    have HV:=Xa hval;clear hval;refine(ZdB V a2 m2 c2 xs wf.heap.size w2.heap.size w2 (Xa HD2.at_) (Xa HD2.len) (Xa HD2.tot) (Nat.le_refl _) (Xa (HTO.out _ HB2.out)) (Xa (HTT.out _ HB2.out)) HV).mono ?_;rintro e w3 ⟨rfl,hb3⟩;have HB3:=Xa (Below.alloc (HB2.trans (hb3.mono HB2.size)) (Nat.le_trans HB2.size hb3.size) (.cells #[.slice none 0 0,.slice none 0 0] 29));have HF3:=Xa ((HF2.keep (hb3.block _ HF2.lt)).box (.cells #[.slice none 0 0,.slice none 0 0] 29));have HA3:=Xa ((HA2.keep (B:=fb) (hb3.mono (Nat.le_of_lt HF2.lt))).keep (Below.alloc (Below.refl fb w3) (Nat.le_trans (Nat.le_of_lt HF2.lt) hb3.size) (.cells #[.slice none 0 0,.slice none 0 0] 29)));have HX3:Hid (Bx (w3.alloc (.cells #[.slice none 0 0,.slice none 0 0] 29)) w3.heap.size #[.slice none 0 0,.slice none 0 0] 29):=Xa (Bx.new _ _ _);clear hb3 HB2 HF2 HA2 HD2;have z0:(w3.alloc (.cells #[.slice none 0 0,.slice none 0 0] 29)).cell? ⟨fb,0,none⟩=some (.int .i64 V):=Bx.cell HF3.out rfl;have z1:(w3.alloc (.cells #[.slice none 0 0,.slice none 0 0] 29)).cell? ⟨fb,1,none⟩=some (.slice a1 m1 c1):=Bx.cell HF3.out rfl
    go_wp2_with fail
    clear z0 z1;generalize w3.alloc (.cells #[.slice none 0 0,.slice none 0 0] 29)=w4 at *;generalize w3.heap.size=lb at *;refine(Jg V a1 m1 c1 xs 0 fb w4 HA3 HL1 HT1 (Nat.le_of_lt HF3.lt)).mono ?_;rw[<-Tx,HV.out];rintro e w5 ⟨rfl,hb5⟩;have z0:w5.cell? ⟨fb,0,none⟩=some (.int .i64 V):=Bx.cell (HF3.keep (hb5.block _ HF3.lt)) rfl;have z1:w5.cell? ⟨fb,1,none⟩=some (.slice a1 m1 c1):=Bx.cell (HF3.keep (hb5.block _ HF3.lt)) rfl;have z2:w5.cell? ⟨lb,0,none⟩=some (.slice none 0 0):=Bx.cell (HX3.keep (hb5.block _ HX3.lt)) rfl;have HB5:=Xa (HB3.trans (hb5.mono HB3.size));have HA5:=Xa (HA3.keep (B:=fb) (hb5.mono (Nat.le_of_lt HF3.lt)));have hfb5:fb<=w5.heap.size:=Nat.le_trans (Nat.le_of_lt HF3.lt) hb5.size;clear hb5
    go_wp2_with fail
    refine(ZbZ V a1 m1 c1 0 xs 0 fb w5 HA5 HL1 HT1 hfb5 (Xa (HTO.out _ HB5.out)) (Xa (HTT.out _ HB5.out)) (Or.inl HV.out)).mono ?_;rintro e w6 ⟨g6,rfl,hb6⟩;have HB6:=Xa (HB5.trans (hb6.mono HB5.size));clear hb6;go_wp2
    go_ret
    exact⟨rfl,HB6.out⟩
   | true =>
    have HV0:=Xa hval;clear hval;obtain⟨Vn,hVn⟩:∃Vn:Nat,V=(Vn:Int):=ZgG HV0.out;subst hVn;have HV:=HV0;clear HV0;have HOL:=Xa (Ue HV.out);refine(Zd8 Vn a2 m2 c2 xs wf.heap.size w2.heap.size w2 (Xa HD2.at_) (Xa HD2.len) (Xa HD2.tot) (Nat.le_refl _) (Xa (HTO.out _ HB2.out)) (Xa (HTT.out _ HB2.out)) (Xa (HTZ.out _ HB2.out)) HV HOL).mono ?_;have hm12:m2=m1:=HD2.len.trans HL1.symm;have hm1n:m1<=1000:=by have:=HOL.okf.n2;have:=HL1.out;omega
    have hm11:1<=m1:=by have:=HOL.okf.n1;have:=HL1.out;omega
    subst hm12;rintro e w3 hli;obtain⟨g0,k0,g1,k1,rfl,hb3,hg0,hin⟩:=hli.use hm11;have HQ4:Hid (LuQ w (w3.alloc (.cells #[.slice (some ⟨g0,0,none⟩) m2 k0,.slice (some ⟨g1,0,none⟩) m2 k1] 29)) fb w3.heap.size (Vn:Int) Vn xs a1 m2 c1 g0 k0 (.slice (some ⟨g1,0,none⟩) m2 k1)):=Xa (by
     have k:=Xb (Below.refl w3.heap.size w3) (.cells #[.slice (some ⟨g0,0,none⟩) m2 k0,.slice (some ⟨g1,0,none⟩) m2 k1] 29);have hB:=(HB2.trans (hb3.mono HB2.size));refine⟨hB.trans (k.mono hB.size),(HF2.keep (hb3.block _ HF2.lt)).box _,(((HA2.keep (B:=fb) (hb3.mono (Nat.le_of_lt HF2.lt))).mono (Nat.le_refl _) (Nat.le_trans (Nat.le_of_lt HF2.lt) hb3.size)).keep k).mono (Nat.le_refl _) k.size,Bx.new _ _ _,Nat.lt_of_lt_of_le hg0 k.size,fun b hb=>?_⟩;obtain⟨ia,ic,h1,h2⟩:=hin b hb;exact⟨ia,ic,(Xc (k.block _ hg0)).trans h1,(h2.keep k).mono (Nat.le_refl _) k.size⟩)
    clear hli hb3 hg0 hin HB2 HF2 HA2 HD2;have z0:(w3.alloc (.cells #[.slice (some ⟨g0,0,none⟩) m2 k0,.slice (some ⟨g1,0,none⟩) m2 k1] 29)).cell? ⟨fb,0,none⟩=some (.int .i64 (Vn:Int)):=Bx.cell HQ4.fbx rfl;have z1:(w3.alloc (.cells #[.slice (some ⟨g0,0,none⟩) m2 k0,.slice (some ⟨g1,0,none⟩) m2 k1] 29)).cell? ⟨fb,1,none⟩=some (.slice a1 m2 c1):=Bx.cell HQ4.fbx rfl
    go_wp2_with fail
    clear z0 z1;generalize w3.alloc (.cells #[.slice (some ⟨g0,0,none⟩) m2 k0,.slice (some ⟨g1,0,none⟩) m2 k1] 29)=w4 at *;generalize w3.heap.size=lb at *;refine(Jg (Vn:Int) a1 m2 c1 xs 0 w4.heap.size w4 (Xa HQ4.at_) HL1 HT1 (Nat.le_refl _)).mono ?_;rw[<-Tx,HV.out];rintro e w5 ⟨rfl,hb5⟩;have HQ5:=Xa (HQ4.keep hb5);clear hb5 HQ4;have z1:w5.cell? ⟨fb,1,none⟩=some (.slice a1 m2 c1):=Bx.cell HQ5.fbx rfl
    go_wp2_with fail
    refine(Zbr ma m mc ms 0 m2 0 w.heap.size w5 (Xa (hma.keep HQ5.low)) hmx hm1 (by omega) (by omega)).mono ?_;rintro e w6 ⟨b,rfl,hb,hb6⟩;have HQ6:=Xa (HQ5.keep hb6);have hbm:b<m2:=hb hm11;clear hb6 HQ5 hb z1;have z1:w6.cell? ⟨fb,1,none⟩=some (.slice a1 m2 c1):=Bx.cell HQ6.fbx rfl;have z2:w6.cell? ⟨lb,0,none⟩=some (.slice (some ⟨g0,0,none⟩) m2 k0):=Bx.cell HQ6.lbx rfl;have z3:w6.cell? ⟨lb,1,none⟩=some (.slice (some ⟨g1,0,none⟩) m2 k1):=Bx.cell HQ6.lbx rfl
    go_wp2_with fail
    refine(HDR.out w6 HQ6.low).mono ?_;rintro e w7 ⟨a7,m7,c7,rfl,hdo⟩;have HQ7:=Xa (HQ6.keep hdo.low);have HD7:=Xa hdo
    clear hdo HQ6 z1 z2 z3;have hbx:b<xs.length:=by rw[<-HL1.out];exact hbm
    go_wp2_with fail
    refine(Zct Vn a7 m7 c7 b xs w6.heap.size w7.heap.size w7 (Xa HD7.at_) (Xa HD7.len) (Xa HD7.tot) (Nat.le_refl _) (Xa (HTO.out _ HQ7.low)) (Xa (HTT.out _ HQ7.low)) (Xa (HTZ.out _ HQ7.low)) HV HOL (by have:=HD7.len;dsimp only at this;omega) hbx).mono ?_;rintro e w8 hpo;obtain⟨sg,sa,sc,rfl,hb8,hsg,hs0,hsi⟩:=hpo.use (by omega);have HQ8:=Xa (HQ7.keep hb8);clear hpo hb8 HQ7 HD7;obtain⟨ni,hni⟩:∃ni,ni=xs[b].instrs.length:=⟨_,rfl⟩;rw[<-hni];have hni4:ni<=4000:=by rw[hni];exact(HOL.lens _ (List.getElem_mem hbx)).1
    have z1:w8.cell? ⟨fb,1,none⟩=some (.slice a1 m2 c1):=Bx.cell HQ8.fbx rfl;obtain⟨gb,ob,ha1,hgb,pa2,pc2,qa2,qc2,-,y1,-,-,-⟩:=HQ8.at_ b hbx;rw[ha1]at z1;rw[<-hni]at y1;clear hni;obtain⟨ia,ic,hi1,hi2⟩:=HQ8.ins b hbm;have HR0:Hid (ZS w ((w8.alloc (.cells #[] 2)).alloc (.cells #[] 2)) (fun q=>if q=w8.heap.size then (5,0,0)else if q=w8.heap.size+1 then (6,0,0)else (0,0,0)) w8.heap.size fb lb Vn xs a1 m2 c1 b g0 k0 (.slice (some ⟨g1,0,none⟩) m2 k1) ia ic sg sa sc (TG xs Vn false b) (Xk (ptP xs xs[b] Vn b 0)) none none [] [] (.slice (some ⟨w8.heap.size,0,none⟩) 0 0) (.slice (some ⟨w8.heap.size+1,0,none⟩) 0 0) [] [] []):=Xa (by
     have hs:LuS w w8 w8.heap.size fb lb Vn xs a1 m2 c1 b g0 k0 (.slice (some ⟨g1,0,none⟩) m2 k1) ia ic sg sa sc (TG xs Vn false b) (Xk (ptP xs xs[b] Vn b 0)) none none [] []:=⟨HQ8.low,HQ8.low.size,HQ8.fbx,HQ8.fbx.lt,HQ8.at_,HQ8.lbx,HQ8.lbx.lt,hi1,HQ8.gl,hi2,hs0,hsg,hsi,fun i hi=>absurd hi (by simp),fun i hi=>absurd hi (by simp),Nat.le_refl _⟩;refine⟨hs.keep (Xb (Xb (Below.refl _ _) _) _),⟨?_,fun q e=>?_⟩,⟨?_,fun q e=>?_⟩,fun q hq=>?_,fun e he=>absurd he (by simp)⟩
     ·exact(World.ownsRow_lit (base:=w8.heap.size) (e:=2) (size:=1) w8 #[] 0 (Nat.le_refl _) (by simp) rfl).alloc _
     ·have e2:w8.heap.size=q:=by injection e
      show(if q=w8.heap.size then _ else _)=_;rw[if_pos e2.symm]
     ·have h:=World.ownsRow_lit (base:=w8.heap.size) (e:=2) (size:=1) (w8.alloc (.cells #[] 2)) #[] 0 (by simp) (by simp) rfl
      rw[World.size_alloc]at h;exact h
     ·have e2:w8.heap.size+1=q:=by injection e
      show(if q=w8.heap.size then _ else if q=w8.heap.size+1 then _ else _)=_;rw[if_neg (by omega),if_pos e2.symm]
     ·rw[World.size_alloc,World.size_alloc]at hq
      show(if q=w8.heap.size then _ else if q=w8.heap.size+1 then _ else _)=_;rw[if_neg (by omega),if_neg (by omega)])
    clear hi1 hi2 hs0 hsg hsi HQ8 ha1
    go_wp2_with fail
    clear z1 y1;refine lu6 w w8.heap.size fb lb Vn xs a1 m2 c1 b g0 k0 (.slice (some ⟨g1,0,none⟩) m2 k1) ia ic sg sa sc (TG xs Vn false b) (Xk (ptP xs xs[b] Vn b 0)) ca ma n cc m mc (ni+1) ms _ _ _ _ HV hbx HL1 HT1 hma hmx hm1 ?_ _ _ _ _ _ _ _ _ _ _ _ _ _ _ _ (by rfl) HR0;intro lab pa qa ps is U G vu vg c11 c12 c13 c14 c15 c16 c17 c18 c19 c20 c21 c22 tl w11 hl hR hUs hUl;obtain⟨f,rfl⟩:=Km tl hl;clear hl HR0;obtain⟨ua,uc,hvu,-⟩:=hR.uAt;subst hvu;have HR:=Xa hR;obtain⟨ul,hul⟩:∃ul,ul=U.length:=⟨_,rfl⟩;rw[<-hul]at HR hUl;have HUL:=Xa hul;have HIN:Hid (∀z∈U,z∈TG xs Vn false b/\z∈Xk (ptP xs xs[b] Vn b 0)):=Xa (fun z hz=>by
     obtain⟨v,rfl,hv,hl⟩:=hUs z hz;exact⟨Zh7 hv hl,Zh0 hbx hv hl⟩)
    have HL2:Hid ((TG xs Vn false b).length<=100000/\(Xk (ptP xs xs[b] Vn b 0)).length<=100000):=Xa (Zg7 HOL.vle);rw[<-hul];clear hR hUs hul
    go_wp2_with fail
    refine lu7 w w8.heap.size fb lb Vn xs a1 m2 c1 b g0 k0 (.slice (some ⟨g1,0,none⟩) m2 k1) ia ic sg sa sc (TG xs Vn false b) (Xk (ptP xs xs[b] Vn b 0)) pa qa ps is ca ma n cc m mc (ni+1) lab ua ul uc vg U G _ _ _ _ _ _ _ _ _ _ _ _ _ _ _ (by exact Xa (fun c a t v w h=>h)) HUL (by omega) hbm (by omega) HL2.1 HL2.2 HIN ?_ _ _ (by rfl) HR;intro tl w12 hl hR2;obtain⟨f,rfl⟩:=Km tl hl;clear hl HR;have HR2:=Xa hR2.s.low;clear hR2;go_wp2
    go_ret
    exact⟨rfl,HR2.out⟩
  ·have hn1I:¬(1048576:Int)<n:=by omega
   have hm1I:(1048576:Int)<m:=by omega
   go_enter Tryd.func3,Tryd.ntmps3
   go_wp2
   go_ret
   exact⟨rfl,Below.refl _ _⟩
 ·have hn1I:(1048576:Int)<n:=by omega
  go_enter Tryd.func3,Tryd.ntmps3
  go_wp2
  go_ret
  exact⟨rfl,Below.refl _ _⟩
end Go.Proofs.YtbofmlmdgkblkaaDoor
namespace Go.Proofs.YtbofmlmdgkblkaaDoor
open Go.RowKit Go.Deep
variable {H : Type} {enc : TypeId × Value -> H} {P : Program} {w : World} {base : Nat} {spare : Nat -> Bool} {held : Bool}
theorem ZJ{a:Addr}{v:Value}(h:w.cell? a=some v):a.block<w.heap.size:=by
 unfold World.cell? at h;split at h
 ·rename_i c _ _ hb
  exact(Array.getElem?_eq_some_iff.1 hb).1
 ·cases h
theorem ZbT{α:Type}[Inhabited α]{t e:TypeId}{fuel s:Nat}{cs:List Value}{x:DataW H × List MemPlace}(ht:P.underlying t=some (.slice e))(hs:P.cellsOf e=s)(hs0:0<s)(Q:Nat->Nat->α->Prop)
 (hQ:∀b o cs' n d,(∀j,j<s->w.cell? ⟨b,o+j,none⟩=cs'[j]?)->cs'.length=s->DataW.trod enc P w base spare held n e cs'=some d->∃x,Q b o x)
 (h:DataW.trod enc P w base spare held fuel t cs=some x) :
 ∃(a:Option Addr)(xs:List α)(c:Nat),cs=[.slice a xs.length c]/\xs.length<=maxLen/\∀i (hi:i<xs.length),∃b o,a=some ⟨b,o,none⟩/\b<w.heap.size/\Q b (o+i*s) xs[i]:=by
 rcases open_slice ht h with⟨rfl,_⟩ | ⟨a,len,cap,m,n,D,Pl,rfl,_,hl,hm,hmm,_,hx⟩
 ·exact⟨none,[],0,rfl,Nat.zero_le _,fun i hi=>absurd hi (by simp)⟩
 rw[hs]at hx;have hlm:len<=m:=by rw[hmm];split<;>omega
 have cellsOf:∀i,i<len->∃cs',cs'.length=s/\(∀j,j<s->w.cell? ((a.add (i*s)).add j)=cs'[j]?)/\DataW.trod enc P w base spare held n e cs'=some (D i,Pl i):=fun i hi=>by
  obtain⟨cs',h1,h2⟩:=hx i (by omega);obtain⟨_,h3,h4⟩:=World.cells?_some h1;exact⟨cs',h3,h4,h2⟩
 obtain⟨b,o,spot⟩:=a;by_cases hlen:len=0
 ·subst hlen
  exact⟨some ⟨b,o,spot⟩,[],cap,rfl,Nat.zero_le _,fun i hi=>absurd hi (by simp)⟩
 have hspot:spot=none:=by
  obtain⟨cs',h1,h2,_⟩:=cellsOf 0 (by omega);have h3:=h2 0 hs0;rw[List.getElem?_eq_getElem (by omega)]at h3;simpa [Addr.add]using World.cell?_spot h3
 subst hspot;obtain⟨f,hf⟩:=choose_lt (α:=α) (n:=len) (p:=fun i x=>b<w.heap.size/\Q b (o+i*s) x) (fun i hi=>by
  obtain⟨cs',h1,h2,h3⟩:=cellsOf i hi;have h4:∀j,j<s->w.cell? ⟨b,o+i*s+j,none⟩=cs'[j]?:=fun j hj=>by
   have:=h2 j hj;rw[Addr.add_mid,Addr.add_mid]at this;exact this
  obtain⟨x,hx⟩:=hQ b (o+i*s) cs' n _ h4 h1 h3;have h5:=h4 0 hs0;rw[List.getElem?_eq_getElem (by omega)]at h5;exact⟨x,ZJ h5,hx⟩)
 refine⟨some ⟨b,o,none⟩,(List.range len).map f,cap,by simp,by simp;omega,fun i hi=>?_⟩;simp only[List.length_map,List.length_range]at hi;obtain⟨h1,h2⟩:=hf i hi;exact⟨b,o,rfl,h1,by simpa using h2⟩
end Go.Proofs.YtbofmlmdgkblkaaDoor
namespace Go.Proofs.YtbofmlmdgkblkaaDoor
open Go.RowKit Go.Deep
variable {H : Type} {enc : TypeId × Value -> H} {w : World} {base : Nat} {spare : Nat -> Bool} {held : Bool}
theorem Zf7{cs:List Value}{k:Nat}{v:Value}(h:(cs.drop k).take 1=[v]):cs[k]?=some v:=by
 have h1:((cs.drop k).take 1)[0]?=some v:=by rw[h];rfl
 rw[List.getElem?_take_of_lt (by omega),List.getElem?_drop]at h1;simpa using h1
theorem ZdZ{cs:List Value}{k m j:Nat}{v:Value}(h:((cs.drop k).take m)[j]?=some v)(hj:j<m):cs[k+j]?=some v:=by
 rw[List.getElem?_take_of_lt hj,List.getElem?_drop]at h;exact h
end Go.Proofs.YtbofmlmdgkblkaaDoor
namespace Go.Proofs.YtbofmlmdgkblkaaDoor
set_option maxRecDepth 100000
open Go.ChangeShapes Go.WideShapes Go.ChangeAt Go.RowKit Go.Joins
theorem own:ownKnob Tryd.prog.godebug=none:=by kernel_rfl
theorem gOps : Tryd.prog.globalNamed "loop.example/s0031/impl.opForms" = some 0 := by kernel_rfl
theorem gTers : Tryd.prog.globalNamed "loop.example/s0031/impl.termForms" = some 1 := by kernel_rfl
theorem gTz : Tryd.prog.globalNamed "math/bits.deBruijn64tab" = some 2 := by kernel_rfl
theorem tTz:(Tryd.prog.globals[2]?).map (·.type)=some 151:=by kernel_rfl
theorem Zbh:Tryd.prog.cellsOf 5=1:=by kernel_rfl
theorem ZiT:(Tryd.prog.globals[0]?).map (·.type)=some 116:=by kernel_rfl
theorem Zi8:(Tryd.prog.globals[1]?).map (·.type)=some 138:=by kernel_rfl
theorem Zfo:Tryd.prog.cellsOf 115=5:=by kernel_rfl
theorem Zd3:Tryd.prog.cellsOf 137=4:=by kernel_rfl
theorem Zco:Tryd.prog.cellsOf 4=1:=by kernel_rfl
theorem Zdw:Tryd.prog.cellsOf 9=1:=by kernel_rfl
variable {H : Type} {enc : TypeId × Value -> H} {w : World} {base : Nat} {spare : Nat -> Bool} {held : Bool}
theorem JP{n k:Nat}{cs:List Value}{y:DataW H × List MemPlace}{b:Bool}(h:DataW.trod enc Tryd.prog w base spare held n 4 ((cs.drop k).take (Tryd.prog.cellsOf 4))=some y)(e:y.1=.lit (.bool b)):cs[k]?=some (.bool b):=by
 rw[Zco]at h;obtain⟨z,h1,h2⟩:=DataW.trod_bool Tryd.underlying4 h;rw[h2]at e;cases e;exact Zf7 h1
theorem Zfb{n k:Nat}{cs:List Value}{y:DataW H × List MemPlace}{s:List UInt8}(h:DataW.trod enc Tryd.prog w base spare held n 9 ((cs.drop k).take (Tryd.prog.cellsOf 9))=some y)(e:y.1=.lit (.string s)):cs[k]?=some (.string (JJ s)):=by
 rw[Zdw]at h;obtain⟨z,h1,h2,_⟩:=DataW.trod_string Tryd.underlying9 h;rw[h2]at e;have e1:z.data.toList=s:=by simpa using e
 have e2:JJ s=z:=by rw[<-e1];cases z;rfl
 rw[e2];exact Zf7 h1
theorem Ki{P:Program}{fs:Array Field}{xs:List (DataW H × List MemPlace)}{n:Nat}{cs:List Value}
 (hf:∀(i:Nat)(f:Field),fs[i]?=some f->DataW.trod enc P w base spare held n f.type ((cs.drop f.offset).take (P.cellsOf f.type))=xs[i]?) (hlen:xs.length=fs.size) (i:Nat) {f:Field} (hi:fs[i]?=some f) {ds:List (DataW H)} (hd:xs.map (·.1)=ds) {d:DataW H} (he:ds[i]?=some d) :
 ∃y,DataW.trod enc P w base spare held n f.type ((cs.drop f.offset).take (P.cellsOf f.type))=some y/\y.1=d:=by
 have h1:=hf i f hi;have h2:i<xs.length:=by rw[hlen];exact(Array.getElem?_eq_some_iff.1 hi).1
 rw[List.getElem?_eq_getElem h2]at h1;refine⟨_,h1,?_⟩;have h3:(xs.map (·.1))[i]?=some d:=by rw[hd];exact he
 rw[List.getElem?_map,List.getElem?_eq_getElem h2]at h3;simpa using h3
theorem dt{cs:List Value}{k m j:Nat}{v:Value}(h:((cs.drop k).take m)[j]?=some v)(hj:j<m):cs[k+j]?=some v:=ZdZ h hj
theorem Zib{n:Nat}{cs:List Value}{rows:List (DataW H)}{p:List MemPlace}(h:DataW.trod enc Tryd.prog w base spare held n 116 cs=some (.agg rows,p))(i:Nat)(hi:i<14)(s:List UInt8)(d a b m:Bool)
 (hr:rows[i]?=some (.agg [.lit (.string s),.lit (.bool d),.lit (.bool a),.lit (.bool b),.lit (.bool m)])) :
 cs[i*5]?=some (.string (JJ s))/\cs[i*5+1]?=some (.bool d)/\cs[i*5+2]?=some (.bool a)/\cs[i*5+3]?=some (.bool b)/\cs[i*5+4]?=some (.bool m):=by
 obtain⟨xs,k,_,hx,_,hlen,hel⟩:=DataW.trod_array Tryd.underlying116 h;have h1:=hel i hi;rw[List.getElem?_eq_getElem (by omega),Zfo]at h1;simp only[Prod.mk.injEq,DataW.agg.injEq]at hx;have h2:(xs[i]'(by omega)).1=.agg [.lit (.string s),.lit (.bool d),.lit (.bool a),.lit (.bool b),.lit (.bool m)]:=by
  have:(xs.map (·.1))[i]?=some (.agg [.lit (.string s),.lit (.bool d),.lit (.bool a),.lit (.bool b),.lit (.bool m)]):=by rw[<-hx.1];exact hr
  rw[List.getElem?_map,List.getElem?_eq_getElem (by omega)]at this;simpa using this
 obtain⟨ys,k2,_,hy,_,hlen2,hf⟩:=DataW.trod_struct Tryd.underlying115 h1;rw[hy]at h2;simp only[DataW.agg.injEq]at h2;obtain⟨y0,g0,e0⟩:=Ki hf hlen2 0 rfl h2 rfl;obtain⟨y1,g1,e1⟩:=Ki hf hlen2 1 rfl h2 rfl;obtain⟨y2,g2,e2⟩:=Ki hf hlen2 2 rfl h2 rfl;obtain⟨y3,g3,e3⟩:=Ki hf hlen2 3 rfl h2 rfl;obtain⟨y4,g4,e4⟩:=Ki hf hlen2 4 rfl h2 rfl;exact⟨dt (j:=0) (Zfb (k:=0) g0 e0) (by decide),dt (JP (k:=1) g1 e1) (by decide),dt (JP (k:=2) g2 e2) (by decide),dt (JP (k:=3) g3 e3) (by decide),dt (JP (k:=4) g4 e4) (by decide)⟩
theorem ZgA{n:Nat}{cs:List Value}{rows:List (DataW H)}{p:List MemPlace}(h:DataW.trod enc Tryd.prog w base spare held n 138 cs=some (.agg rows,p))(i:Nat)(hi:i<4)(s:List UInt8)(a t o:Bool)
 (hr:rows[i]?=some (.agg [.lit (.string s),.lit (.bool a),.lit (.bool t),.lit (.bool o)])) :
 cs[i*4]?=some (.string (JJ s))/\cs[i*4+1]?=some (.bool a)/\cs[i*4+2]?=some (.bool t)/\cs[i*4+3]?=some (.bool o):=by
 obtain⟨xs,k,_,hx,_,hlen,hel⟩:=DataW.trod_array Tryd.underlying138 h;have h1:=hel i hi;rw[List.getElem?_eq_getElem (by omega),Zd3]at h1;simp only[Prod.mk.injEq,DataW.agg.injEq]at hx;have h2:(xs[i]'(by omega)).1=.agg [.lit (.string s),.lit (.bool a),.lit (.bool t),.lit (.bool o)]:=by
  have:(xs.map (·.1))[i]?=some (.agg [.lit (.string s),.lit (.bool a),.lit (.bool t),.lit (.bool o)]):=by rw[<-hx.1];exact hr
  rw[List.getElem?_map,List.getElem?_eq_getElem (by omega)]at this;simpa using this
 obtain⟨ys,k2,_,hy,_,hlen2,hf⟩:=DataW.trod_struct Tryd.underlying137 h1;rw[hy]at h2;simp only[DataW.agg.injEq]at h2;obtain⟨y0,g0,e0⟩:=Ki hf hlen2 0 rfl h2 rfl;obtain⟨y1,g1,e1⟩:=Ki hf hlen2 1 rfl h2 rfl;obtain⟨y2,g2,e2⟩:=Ki hf hlen2 2 rfl h2 rfl;obtain⟨y3,g3,e3⟩:=Ki hf hlen2 3 rfl h2 rfl;exact⟨dt (j:=0) (Zfb (k:=0) g0 e0) (by decide),dt (JP (k:=1) g1 e1) (by decide),dt (JP (k:=2) g2 e2) (by decide),dt (JP (k:=3) g3 e3) (by decide)⟩
theorem Ziu{n k:Nat}{cs:List Value}{y:DataW H × List MemPlace}{b:Int}(h:DataW.trod enc Tryd.prog w base spare held n 5 ((cs.drop k).take (Tryd.prog.cellsOf 5))=some y)(e:y.1=.lit (.int .u8 b)):cs[k]?=some (.int .u8 b):=by
 rw[Zbh]at h;obtain⟨z,h1,h2,_⟩:=DataW.trod_int Tryd.underlying5 h;rw[h2]at e;cases e;exact Zf7 h1
theorem ZhT{n:Nat}{cs:List Value}{rows:List (DataW H)}{p:List MemPlace}(h:DataW.trod enc Tryd.prog w base spare held n 151 cs=some (.agg rows,p))(i:Nat)(hi:i<64)(k:Int)
 (hr:rows[i]?=some (.lit (.int .u8 k))):cs[i]?=some (.int .u8 k):=by
 obtain⟨xs,k',_,hx,_,hlen,hel⟩:=DataW.trod_array Tryd.underlying151 h;have h1:=hel i hi;rw[List.getElem?_eq_getElem (by omega)]at h1;simp only[Prod.mk.injEq,DataW.agg.injEq]at hx;have h2:(xs[i]'(by omega)).1=.lit (.int .u8 k):=by
  have:(xs.map (·.1))[i]?=some (.lit (.int .u8 k)):=by rw[<-hx.1];exact hr
  rw[List.getElem?_map,List.getElem?_eq_getElem (by omega)]at this;simpa using this
 have h3:=Ziu h1 h2;rw[Zbh,Nat.mul_one]at h3;exact h3
def Zft:List (DataW Unit):=match Rows.laid_math_bits_deBruijn64tab (H:=Unit)with
 | .agg l=>l
 | _=>[]
theorem ZhZ:Zft=Lib.deBruijn64tab.map fun k:Nat=>(.lit (.int .u8 (k:Int)):DataW Unit):=rfl
theorem Zih:Lib.deBruijn64tab.length=64:=by decide
theorem Zgy:∀j,j<64->Zft[j]?=some (.lit (.int .u8 (Lib.deBruijn64tab.getD j 0:Nat))):=fun j hj=>by
 have h:j<Lib.deBruijn64tab.length:=by rw[Zih];exact hj
 rw[ZhZ,List.getElem?_map,List.getElem?_eq_getElem h,List.getD_eq_getElem?_getD,List.getElem?_eq_getElem h];rfl
theorem Zcx:Tryd.prog.cellsOf 5=1:=by kernel_rfl
theorem VM{n:Nat}{cs:List Value}{d:DataW H × List MemPlace}(h:DataW.trod enc Tryd.prog w base spare held n 22 cs=some d) :
 ∃(a:Option Addr)(xs:List UInt8)(c:Nat),cs=[.slice a xs.length c]/\xs.length<=maxLen/\Yg w 0 w.heap.size a xs:=by
 obtain⟨a,xs,c,h1,h2,h3⟩:=ZbT (α:=UInt8) (s:=1) Tryd.underlying22 Zcx (by decide) (fun b o x=>w.cell? ⟨b,o,none⟩=some (.int .u8 (x.toNat:Int))) (fun b o cs' n d hc hl hd=>by
  obtain⟨z,hz,_,hwf⟩:=DataW.trod_int Tryd.underlying5 hd;have hr:0<=z/\z<256:=by
   simp[Lit.wf,IntKind.min,IntKind.max,IntKind.signed,IntKind.bits]at hwf;omega
  refine⟨UInt8.ofNat z.toNat,?_⟩;have:=hc 0 (by decide);rw[hz]at this;have e2:((UInt8.ofNat z.toNat).toNat:Int)=z:=by
   rw[UInt8.toNat_ofNat'];omega
  rw[e2];simpa using this) h
 refine⟨a,xs,c,h1,h2,fun i hi=>?_⟩;obtain⟨b,o,e,hb,hq⟩:=h3 i hi;exact⟨b,o,e,⟨Nat.zero_le _,hb⟩,by simpa using hq⟩
theorem ZhK{W:World}(h:laidMetH Tryd.prog Rows.fnLivePathRow.laid W):YG W/\Ym W/\Jz W:=by
 rw[MakeChecks.laidMetH_plain _ _ _ (by kernel_rfl)]at h;obtain⟨ps,⟨g2,t2,cs2,f2,p2,q2,hg2,ht2,hv2,hd2,⟨g0,t0,cs0,f0,p0,q0,hg0,ht0,hv0,hd0,⟨g1,t1,cs1,f1,p1,q1,hg1,ht1,hv1,hd1,_,_⟩,_⟩,_⟩,_,_⟩:=h;obtain rfl:=Option.some.inj (gTz.symm.trans hg2);obtain rfl:=Option.some.inj (tTz.symm.trans ht2);have c2:∀j v,cs2.toList[j]?=some v->W.cell? ⟨2,j,none⟩=some v:=fun j v hv=>by
  have:=World.var?_cell hg2 hv2 j;rw[this];simpa using hv
 obtain rfl:=Option.some.inj (gOps.symm.trans hg0);obtain rfl:=Option.some.inj (gTers.symm.trans hg1);obtain rfl:=Option.some.inj (ZiT.symm.trans ht0);obtain rfl:=Option.some.inj (Zi8.symm.trans ht1);have c0:∀j v,cs0.toList[j]?=some v->W.cell? ⟨0,j,none⟩=some v:=fun j v hv=>by
  have:=World.var?_cell hg0 hv0 j;rw[this];simpa using hv
 have c1:∀j v,cs1.toList[j]?=some v->W.cell? ⟨1,j,none⟩=some v:=fun j v hv=>by
  have:=World.var?_cell hg1 hv1 j;rw[this];simpa using hv
 refine⟨?_,?_,fun j hj=>c2 _ _ (ZhT hd2 j hj _ (Zgy j hj))⟩
 ·have row:∀i s d a b m,i<14->((match Rows.laid_loop_example_s0031_impl_opForms (H:=Unit)with | .agg l=>l | _=>[]):List (DataW Unit))[i]?=some (.agg [.lit (.string s),.lit (.bool d),.lit (.bool a),.lit (.bool b),.lit (.bool m)]) ->
   W.cell? ⟨0,i*5,none⟩=some (.string (JJ s))/\W.cell? ⟨0,i*5+1,none⟩=some (.bool d)/\W.cell? ⟨0,i*5+2,none⟩=some (.bool a)/\W.cell? ⟨0,i*5+3,none⟩=some (.bool b)/\W.cell? ⟨0,i*5+4,none⟩=some (.bool m):=fun i s d a b m hi hr=>by
   obtain⟨e0,e1,e2,e3,e4⟩:=Zib hd0 i hi s d a b m hr;exact⟨c0 _ _ e0,c0 _ _ e1,c0 _ _ e2,c0 _ _ e3,c0 _ _ e4⟩
  have r1:=row 1 _ _ _ _ _ (by decide) rfl;refine⟨ZJ r1.1,fun k h1 h2=>?_⟩;have hk:k=1\/k=2\/k=3\/k=4\/k=5\/k=6\/k=7\/k=8\/k=9\/k=10\/k=11\/k=12\/k=13:=by omega
  rcases hk with rfl | rfl | rfl | rfl | rfl | rfl | rfl | rfl | rfl | rfl | rfl | rfl | rfl
  ·exact r1
  ·exact row 2 _ _ _ _ _ (by decide) rfl
  ·exact row 3 _ _ _ _ _ (by decide) rfl
  ·exact row 4 _ _ _ _ _ (by decide) rfl
  ·exact row 5 _ _ _ _ _ (by decide) rfl
  ·exact row 6 _ _ _ _ _ (by decide) rfl
  ·exact row 7 _ _ _ _ _ (by decide) rfl
  ·exact row 8 _ _ _ _ _ (by decide) rfl
  ·exact row 9 _ _ _ _ _ (by decide) rfl
  ·exact row 10 _ _ _ _ _ (by decide) rfl
  ·exact row 11 _ _ _ _ _ (by decide) rfl
  ·exact row 12 _ _ _ _ _ (by decide) rfl
  ·exact row 13 _ _ _ _ _ (by decide) rfl
 ·have row:∀i s a t o,i<4->((match Rows.laid_loop_example_s0031_impl_termForms (H:=Unit)with | .agg l=>l | _=>[]):List (DataW Unit))[i]?=some (.agg [.lit (.string s),.lit (.bool a),.lit (.bool t),.lit (.bool o)]) ->
   W.cell? ⟨1,i*4,none⟩=some (.string (JJ s))/\W.cell? ⟨1,i*4+1,none⟩=some (.bool a)/\W.cell? ⟨1,i*4+2,none⟩=some (.bool t)/\W.cell? ⟨1,i*4+3,none⟩=some (.bool o):=fun i s a t o hi hr=>by
   obtain⟨e0,e1,e2,e3⟩:=ZgA hd1 i hi s a t o hr;exact⟨c1 _ _ e0,c1 _ _ e1,c1 _ _ e2,c1 _ _ e3⟩
  have r1:=row 1 _ _ _ _ (by decide) rfl;refine⟨ZJ r1.1,fun k h1 h2=>?_⟩;have hk:k=1\/k=2\/k=3:=by omega
  rcases hk with rfl | rfl | rfl
  ·exact r1
  ·exact row 2 _ _ _ _ (by decide) rfl
  ·exact row 3 _ _ _ _ (by decide) rfl
theorem Zfu(H:Type)(enc:TypeId × Value->H)(W:World)(base:Nat)(args:Array Value)(ds gs:List (DataW H))(before:List MemPlace)
 (hval:∀(j:Nat) t v,Tryd.f3.params[j]?=some t->args[j]?=some v->Value.okWide Tryd.prog W .any base t v)
 (hW:DataW.Whole enc Tryd.prog Tryd.f3.params.toList Rows.fnLivePathSpec.vars false W args.toList ds gs before) (hL:laidMetH Tryd.prog Rows.fnLivePathRow.laid W) :
 Calls Tryd.prog 3 args W fun e W'=>∃v,e=.returned v/\Rows.fnLivePathSpec.post enc Tryd.prog Tryd.f3 false true false false W args v W':=by
 have hW':=hW;obtain⟨p,q,hA0,hV,rfl,hfz,hnd⟩:=hW;have hA:DataW.TrodAll enc Tryd.prog W 0 (fun _=>true) true Tryd.f3.params.toList args.toList ds p:=hA0;rw[Tryd.params3]at hA hval;obtain⟨v0,vs0,d0,ds0,p0,q0,hargs,rfl,rfl,h0,r0⟩:=trodAll_cons hA;obtain⟨v1,vs1,d1,ds1,p1,q1,rfl,rfl,rfl,h1,r1⟩:=trodAll_cons r0;obtain⟨rfl,rfl,rfl⟩:=trodAll_nil r1;obtain rfl:args=#[v0,v1]:=by cases args;simp_all
 clear hA0;have h0':=h0;have h1':=h1;obtain⟨a1,l1,k1,rfl⟩:=okWide_slice Tryd.underlying22 (hval 0 22 v0 rfl rfl);obtain⟨a2,l2,k2,rfl⟩:=okWide_slice Tryd.underlying22 (hval 1 22 v1 rfl rfl);obtain⟨f1,t1⟩:=h0;obtain⟨f2,t2⟩:=h1;obtain⟨b1,ys1,m1,e1,hlen1,hi1⟩:=VM t1;obtain⟨b2,ys2,m2,e2,hlen2,hi2⟩:=VM t2;have q1:Value.slice a1 l1 k1=.slice b1 ys1.length m1:=by simpa [Value.cells]using e1
 have q2:Value.slice a2 l2 k2=.slice b2 ys2.length m2:=by simpa [Value.cells]using e2
 injection q1 with q11 q12 q13;subst q11 q12 q13;injection q2 with q21 q22 q23;subst q21 q22 q23;obtain⟨hO,hT,hZ⟩:=ZhK hL;have hmax:maxLen=9223372036854775807:=by unfold maxLen;decide
 rw[hmax]at hlen1 hlen2;refine(Zd7 a1 a2 ys1.length k1 ys2.length k2 ys1 ys2 W hi1 rfl hlen1 hi2 rfl hlen2 hO hT hZ (ZJ (hZ 0 (by decide)))).mono fun e W' ⟨he,hbel⟩=>?_
 subst he;obtain⟨g1,g2,rfl⟩:∃g1 g2,gs=[g1,g2]:=by
  match gs,hV with
  | [g1,g2],_=>exact⟨g1,g2,rfl⟩
  | [],hV=>exact hV.elim
  | [_],hV=>obtain⟨_,_,_,_,_,_,_,_,_,_,hV,_⟩:=hV;exact hV.elim
  | _::_::_::_,hV=>obtain⟨_,_,_,_,_,_,_,_,_,_,⟨_,_,_,_,_,_,_,_,_,_,hV,_⟩,_⟩:=hV;exact hV.elim
 have hlt:=hW'.lt;refine⟨_,rfl,_,_,_,[],p0++(p1++[]),q,hW',trodAll_cons_mk (shut_bool Tryd.underlying4 _) trodAll_mk0,?_,?_,hbel.frame _,fun h=>by cases h⟩
 ·exact trodAll_cons_mk (Below.trod (by kernel_rfl) (by kernel_rfl) (of_decide_eq_true (by kernel_rfl)) h0' hbel (fun x hx=>hlt x (List.mem_append_left _ (List.mem_append_left _ hx)))) (trodAll_cons_mk (Below.trod (by kernel_rfl) (by kernel_rfl) (of_decide_eq_true (by kernel_rfl)) h1' hbel (fun x hx=>hlt x (List.mem_append_left _ (List.mem_append_right _ (List.mem_append_left _ hx))))) trodAll_mk0)
 ·exact Below.trodVars (by kernel_rfl) hbel (by kernel_rfl) hV
theorem ZeM(os:Os):laidMet Tryd.prog Rows.fnLivePathRow.laid ((World.doorLaid Tryd.prog 64 os).forCall (fun _ _=>0) ⟨#[],#[.slice none 0 0,.slice none 0 0],[]⟩).memory :=
 laidMet_of_run' 8 (by kernel_rfl) (by kernel_rfl)
theorem Ziy(os:Os){H:Type}(enc:TypeId × Value->H):∃gs places,DataW.whole enc Tryd.prog ((World.doorLaid Tryd.prog 64 os).forCall (fun _ _=>0) ⟨#[],#[.slice none 0 0,.slice none 0 0],[]⟩).memory Tryd.f3.params.toList Rows.fnLivePathSpec.vars false #[Value.slice none 0 0,.slice none 0 0].toList 8=some ([.nil,.nil],gs,places) :=
 ⟨[Rows.laid_loop_example_s0031_impl_termForms,Rows.laid_loop_example_s0031_impl_opForms],[]++(MemPlace.row ⟨1,0,none⟩ 16++[]++(MemPlace.row ⟨0,0,none⟩ 70++[]++[])),by kernel_rfl⟩
theorem ZhR(os:Os)(started:os.Started)(H:Type)(enc:TypeId × Value->H)(F:Stop.Interp) :
 ReturnsInHanded {} Tryd.checked os 3 .any ((OpenSpec.ofChange Rows.fnLivePathSpec).preRow enc Tryd.prog Tryd.f3 Rows.fnLivePathRow.domain false Rows.fnLivePathRow.laid) (((OpenSpec.ofChange Rows.fnLivePathSpec).at F).post enc Tryd.prog Tryd.f3 false true false false):=by
 obtain⟨gs,places,hx⟩:=Ziy os enc;refine returnsInHanded_of_row (C:=Tryd.checked) (s:=OpenSpec.ofChange Rows.fnLivePathSpec) own started (by kernel_rfl) Tryd.func3
  (witness_row_at (enc:=enc) (C:=Tryd.checked) false (World.doorLaid Tryd.prog 64 os) #[.slice none 0 0,.slice none 0 0] rfl (by kernel_rfl) (by kernel_rfl) (by kernel_rfl)
   (OpenSpec.preRow_of_cond 8 hx (by kernel_rfl) (fun k hk=>by cases hk) (by kernel_rfl) (ZeM os))) ?_
 intro W base args ds gs before hval hW _ _ _ hL _ _;exact Zfu H enc W base args ds gs before hval hW hL
theorem ZiQ:Rows.FnLivePathSaid :=
 OpenClaim.holds_of_cond 3 Tryd.f3 rfl rfl rfl rfl rfl rfl rfl ⟨rfl,rfl,rfl,rfl,rfl⟩ rfl rfl rfl rfl rfl (by kernel_rfl) Tryd.func3 (by kernel_rfl)
  (of_decide_eq_true (by kernel_rfl)) (by unfold Func.isWrapper;first | (rw[if_pos (by decide +kernel)];kernel_rfl) | (rw[if_neg (by decide +kernel)];exact⟨rfl,rfl⟩))
  (fun os started H enc _ F=>by rw[OpenClaim.pre_eq_preRow];exact ZhR os started H enc F)
theorem plain (f : FuncId) (fn : Func) (hf : Tryd.pinned.checked.prog.funcNamed "loop.example/s0031/laws.FnLivePath" = some f) (hfn : Tryd.pinned.checked.prog.funcs[f]? = some fn) :
 false=Tryd.pinned.checked.prog.looks []/\∀(j:Nat) t,fn.params[j]?=some t->Tryd.pinned.checked.prog.wantsStandIn t=false:=by
 obtain rfl : f = 3 := Option.some.inj ((show Tryd.prog.funcNamed "loop.example/s0031/laws.FnLivePath" = some 3 by kernel_rfl).symm.trans hf) |>.symm
 obtain rfl:fn=Tryd.f3:=(Option.some.inj (Tryd.func3.symm.trans hfn)).symm;refine⟨by kernel_rfl,fun j t ht=>?_⟩;rw[Tryd.params3]at ht;obtain rfl:t=22:=by simpa using Array.mem_of_getElem? ht
 exact(show Tryd.prog.wantsStandIn 22=false by kernel_rfl)
theorem fnLivePath_card:Rows.FnLivePathCardSaid :=
 Claim7.holds_tied_plain_at .later [] _ _ _ _ ZiQ (fun _ h=>by cases h) (by kernel_rfl) (fun _ h=>by cases h) fnLivePath_row_tie rfl ⟨rfl,rfl⟩ (by kernel_rfl) rfl plain (by kernel_rfl)
#print axioms fnLivePath_card
end Go.Proofs.YtbofmlmdgkblkaaDoor
