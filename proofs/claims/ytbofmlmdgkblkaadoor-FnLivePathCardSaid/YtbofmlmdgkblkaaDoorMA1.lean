import Derived.Test.YtbofmlmdgkblkaaDoorDO2
import Derived.Test.YtbofmlmdgkblkaaDoorMP1
namespace Go.Proofs.YtbofmlmdgkblkaaDoor
set_option maxHeartbeats 4000000
set_option maxRecDepth 100000
open Go.RowKit
theorem Zam(v:Int)(a:Option Addr)(n c:Nat)(xs:List Xg)(L B:Nat)(w:World)(ha:Hid (Xy w L B a xs))(hx:Hid (n=xs.length))(hs:Hid (xs.length+X7 xs<=1048576))(hB:B<=w.heap.size)(hv:Hid (Y7 ⟨v,xs⟩=true)) :
 Calls Tryd.prog 10 #[.agg #[.int .i64 v,.slice a n c]] w fun e w'=>∃P a1 c1 a2 c2 a3 c3 a4 c4,e=.returned (.agg #[.slice a1 n c1,.slice a2 n c2,.slice a3 n c3,.slice a4 (Y0 P n 0).length c4])/\Below w.heap.size w w'/\Th (XW xs) n P/\ZhD w' w.heap.size w'.heap.size (prL xs) (rcL xs) P (Xk (Y0 P n 0)) a1 a2 a3 a4:=by
 have HOK:=Xa (UN hv.out);have hn2:n<=1000:=by have:=HOK.n2;have:=hx.out;omega
 have hn1:0<n:=by have:=HOK.n1;have:=hx.out;omega
 have HRE:Hid (∀x,Re (XW xs) x->x<n):=Xa (by rw[hx.out];exact HOK.re);have HVF:=Xa (fun W (hb:Below w.heap.size w W)=>Jg v a n c xs L B W (Xa (ha.keep (hb.mono hB))) hx hs (by have:=hb.size;omega));rw[<-Tx,hv.out]at HVF;have HRC:=Xa (fun W (hb:Below w.heap.size w W) z=>WA v a n c z xs L B W (Xa (ha.keep (hb.mono hB))) hx hn2 hn1 (by have:=hb.size;omega) (Xa (by rw[hx.out];exact HOK.tgt)));have HPR:=Xa (fun W (hb:Below w.heap.size w W) q=>Zs v a n c q xs L B W (Xa (ha.keep (hb.mono hB))) hx (by omega) (by have:=hb.size;omega));have HDO:=Xa (fun W (hb:Below w.heap.size w W)=>Zbi v a n c xs L B W (Xa (ha.keep (hb.mono hB))) hx (by have:=hb.size;omega) HOK)
 go_enter Tryd.func10,Tryd.ntmps10
 go_wp2_with fail
 refine(HVF.out _ (by first | exact Below.refl _ _ | exact Xb (Below.refl _ _) _ | exact Xb (Xb (Below.refl _ _) _) _)).mono ?_;rintro e w1 ⟨rfl,hb1⟩;obtain⟨hc1,hf1⟩:=WC hb1;have k0:w1.cell? ⟨w.heap.size,0,none⟩=some (.int .i64 v):=by rw[hc1 _ _ (by simp;omega)];simp[go_sem]
 have k1:w1.cell? ⟨w.heap.size,1,none⟩=some (.slice a n c):=by rw[hc1 _ _ (by simp;omega)];simp[go_sem]
 have HB1:=Xa (Xj (Xb (Xb (Below.refl w.heap.size w) _) _) hb1);have hz1:w.heap.size+2<=w1.heap.size:=by have:=hb1.size;simp at this;omega
 have HR1:Hid (w1.rowIs (w.heap.size+1) 50 4 (fun _=>.slice none 0 0)):=Xa (by
  have h:=World.rowIs_alloc (w.alloc (.cells #[.int .i64 v,.slice a n c] 25)) #[.slice none 0 0,.slice none 0 0,.slice none 0 0,.slice none 0 0] 50 (fun _=>.slice none 0 0) (fun i hi=>by
   match i,hi with
   | 0,_=>rfl
   | 1,_=>rfl
   | 2,_=>rfl
   | 3,_=>rfl)
  rw[World.size_alloc]at h;exact h.of_block (hb1.block _ (by simp)))
 clear hc1 hf1 hb1 HVF;have hlw:w.heap.size<w1.heap.size:=by omega
 go_wp2_with fail
 refine(HRC.out _ (Xb HB1.out _) (-1)).mono ?_;rintro e w2 ⟨v2,F,rfl,hb2,ho2,hnd2,hm2⟩;obtain⟨a2,c2',rfl,hi2⟩:=Xn (xs:=Xk F) (by rw[<-Uj];exact ho2);have HM2:Hid (∀x,x∈F↔Re (XW xs) x):=Xa (fun x=>(hm2 x).trans (ZcP (by decide)));have hlF:(Xk F).length<=1000:=by rw[YC];exact Nat.le_trans (JE hnd2 (fun x hx=>HRE.out x ((HM2.out x).1 hx))) hn2
 have hz2:w1.heap.size+1<=w2.heap.size:=by have:=hb2.size;simp at this;omega
 have HI2:Hid (Xe w2 (w1.heap.size+1) w2.heap.size a2 (Xk F)):=Xa (by simpa using hi2);have HB2:=Xa (Xj (Xb HB1.out (.cells #[.slice none 0 0,.slice none 0 0,.slice none 0 0,.slice none 0 0] 50)) hb2);have HF0:Hid (MaI w1 w2 w2 (fun _=>.slice none 0 0) (fun z=>.bool (XT (Xk F) (z:Int))) (fun i:Nat=>predsFrom xs 0 (i:Int)) 0 0 none 0 0 none 0):=Xa (by
  have h0:FwI w1 (w1.alloc (.cells #[.slice none 0 0,.slice none 0 0,.slice none 0 0,.slice none 0 0] 50)) w1.heap.size (.slice none 0 0) (.slice none 0 0) (fun _=>.slice none 0 0) (fun z=>.bool (XT (Xk F) (z:Int))) 0 none 0 0 none 0 :=
   ⟨by simp[go_sem],by simp[go_sem],by simp[go_sem],by simp[go_sem],fun q=>(World.rowIs_alloc w1 #[.slice none 0 0,.slice none 0 0,.slice none 0 0,.slice none 0 0] 50 (fun i=>#[.slice none 0 0,.slice none 0 0,.slice none 0 0,.slice none 0 0].getD i undef) (fun i hi=>by simp[Array.getElem?_eq_getElem hi])).frozen q,Xb (Below.refl _ _) _,by simp,rfl,World.ownsRow_nil _ _ _ _,World.ownsRow_nil _ _ _ _,Or.inl rfl⟩
  exact⟨h0.below hb2,fun i hi=>absurd hi (Nat.not_lt_zero _),Yp.refl _ _ _,fun k hk=>(by rcases hk with e | e<;>cases e),Nat.le_refl _⟩)
 have HC2:Hid (w2.cell? ⟨w.heap.size,0,none⟩=some (.int .i64 v)/\w2.cell? ⟨w.heap.size,1,none⟩=some (.slice a n c)):=Xa ⟨(hb2.cell (p:=⟨w.heap.size,0,none⟩) (by show w.heap.size<_;simp;omega)).trans ((World.cell?_alloc_lt w1 _ ⟨w.heap.size,0,none⟩ hlw).trans k0),(hb2.cell (p:=⟨w.heap.size,1,none⟩) (by show w.heap.size<_;simp;omega)).trans ((World.cell?_alloc_lt w1 _ ⟨w.heap.size,1,none⟩ hlw).trans k1)⟩;clear hb2 ho2 hi2 hm2 hnd2;obtain⟨lF,hlF2⟩:∃lF,lF=(Xk F).length:=⟨_,rfl⟩;rw[<-hlF2]at hlF |-;have HLF:=Xa hlF2;have K01:Hid (w1.cell? ⟨w.heap.size,0,none⟩=some (.int .i64 v)/\w1.cell? ⟨w.heap.size,1,none⟩=some (.slice a n c)):=Xa ⟨k0,k1⟩;clear hlF2 k0 k1
 go_wp2_with fail
 go_loopw [5] (fun u wr=>∃(b:Nat)(p1:Option Addr)(c1:Nat)(p2:Option Addr)(c2:Nat)(U:Nat->Value),b<=n/\u=.int .i64 b/\Hid (MaI w1 w2 wr U (fun z=>.bool (XT (Xk F) (z:Int))) (fun i:Nat=>predsFrom xs 0 (i:Int)) b b p1 c1 b p2 c2)) (fun u _=>n-(intOf u).toNat)
 case atStart=>exact⟨0,none,0,none,0,_,Nat.zero_le _,rfl,HF0⟩
 case round =>
  clear HF0;obtain⟨b,p1,c1,p2,c2,U,hbn,rfl,HMb⟩:=hrel;have hwl:=HMb.fl.lt;have hlr:w.heap.size<wr.heap.size:=by omega
  have HBw:Hid (Below w.heap.size w wr):=Xa (HB1.trans (HMb.fl.bel.mono (by omega)));have g0:=(HMb.fl.bel.cell (p:=⟨w.heap.size,0,none⟩) hlw).trans K01.1;have g1:=(HMb.fl.bel.cell (p:=⟨w.heap.size,1,none⟩) hlw).trans K01.2;by_cases hlt:b<n
  ·have m0:=HMb.fl.e0
   obtain⟨i1,hi1,hy0,hy1,hy2⟩:=Xp Tryd.infoSetI;have HMd:=Xa (HMb.below (Below.refl wr.heap.size wr).drew);have HBd:=Xa HBw.drew;have hpl:(predsFrom xs 0 (b:Int)).length<=1000:=Nat.le_trans (YP _ _ _) (by have:=hx.out;omega);have hn0:w.heap.size≠w1.heap.size:=by omega
   go_wp2_with fail
   refine YS (fun w'=>w'.cell? ⟨w.heap.size,0,none⟩=some (.int .i64 v)/\w'.cell? ⟨w.heap.size,1,none⟩=some (.slice a n c)) (fun hHeld=>?_);refine Xr 0 ?_;refine Xr 2 ?_;refine Xr 3 ?_;refine wpAnyH_ready (rs:=[1,4]) (by kernel_rfl) (by simp) ?_;refine(AllReadyH.cons rfl (fun K hK=>?_) (AllReadyH.cons rfl (fun K hK=>?_) AllReadyH.nil))
   ·skip
    go_simp;refine hK _ _ (by first | with_reducible exact hHeld | ((try dsimp only);go_keep)) (fun hHeld=>?_);clear hK
    try simp only[Act.put,xA,xB,xC,xD,xE,xF]
    refine Xs 4 (fun K hK=>?_);go_simp
    go_at_call 19
    refine(HPR.out _ HBd.out (b:Int)).mono ?_;rintro e w5 ⟨ua,uc,rfl,hb5,hi5⟩;have HM5:=Xa (HMd.newU (u:=.slice ua (predsFrom xs 0 (b:Int)).length uc) (uc:=uc) hb5 rfl hi5);have y0:=HM5.fl.e0;have yl:=HM5.fl.lt;have yf0:=(hb5.cell (p:=⟨w.heap.size,0,none⟩) hlr).trans g0;have yf1:=(hb5.cell (p:=⟨w.heap.size,1,none⟩) hlr).trans g1;have hz5:wr.heap.size<=w5.heap.size:=hb5.size;clear hb5 hi5;generalize (predsFrom xs 0 (b:Int)).length=ul at *;refine hK _ _ ⟨yf0,yf1⟩ (fun hHeld=>?_);clear hK;refine Xr 5 ?_;refine Xs 6 (fun K hK=>?_);go_simp;refine hK _ _ (by first | with_reducible exact hHeld | ((try dsimp only);go_keep)) (fun hHeld=>?_);clear hK;refine Xs 7 (fun K hK=>?_);refine XQ rfl _ _ 27 rfl (w1.heap.size+1) 47 i1 (.agg #[.slice none 0 0]) 1 24 Tryd.underlying27 hi1 hy0 hy1 hy2 rfl (by decide) (.slice p1 b c1) b ((List.range b).map (fun i=>if i=b then Value.slice ua ul uc else U i)) rfl ?s1 ⟨w5.heap.size,0,none⟩ 1 1 [.slice ua ul uc] rfl rfl ?s2 ?s3 ?s4 ?s5 ?s6 ?_
    case s1=>exact HM5.fl.o1.alloc _
    case s2=>exact Xz _ _ _
    case s3=>intro u hu;simp at hu;subst hu;rfl
    case s4=>unfold maxLen;omega
    case s5=>omega
    case s6=>simp;omega
    intro v8 w8 hown8 hg8 _ hat8;obtain⟨g8,c8,rfl,hg8r,_⟩:=Xh hown8 (by omega);obtain⟨hM8,ce8,fe8,hbl8⟩:=HM5.app1 hg8 (by rw[if_pos rfl];exact hown8) (by simpa using hat8);have z0:w8.cell? ⟨w1.heap.size,0,none⟩=some (.slice p1 b c1):=(ce8 0).trans HM5.fl.e0;have zf:=fe8 0;have za:w8.cell? ⟨w.heap.size,0,none⟩=some (.int .i64 v):=(hbl8.cell (p:=⟨w.heap.size,0,none⟩) hlw).trans yf0;have zb:w8.cell? ⟨w.heap.size,1,none⟩=some (.slice a n c):=(hbl8.cell (p:=⟨w.heap.size,1,none⟩) hlw).trans yf1;have HM8:=Xa hM8;clear hown8 hg8 hat8 hM8 ce8 fe8 hbl8;refine hK _ _ ⟨za,zb⟩ (fun hHeld=>?_);clear hK;refine Xr 8 ?_;refine Xs 9 (fun K hK=>?_);go_simp;refine hK _ _ ⟨(Xc (Below.heap_setCell _ _ _ _ hn0)).trans za,(Xc (Below.heap_setCell _ _ _ _ hn0)).trans zb⟩ (fun hHeld=>?_);clear hK;refine Y5 ?_;clear hHeld z0 zf za zb y0 yl yf0 yf1 m0;generalize w8.setCell ⟨w1.heap.size,0,none⟩ (.slice (some ⟨g8,0,none⟩) (b+1) c8)=w9 at *;have HM9d:=Xa (HM8.below (Below.refl w9.heap.size w9).drew);have x1:=HM8.fl.e1;have xl:=HM8.fl.lt;obtain⟨i2,hi2,hv0,hv1,hv2⟩:=Xp Tryd.infoBo;have HHA:=Xa (fun W (h:Yp (w1.heap.size+1) w2.heap.size w2 W)=>Jc a2 lF c2' b (Xk F) (w1.heap.size+1) w2.heap.size W (Xa (HI2.keepS h)) HLF (by omega))
    go_wp2_with fail
    refine YS (fun _=>True) (fun hHeld=>?_);refine Xr 0 ?_;refine Xr 2 ?_;refine Xr 3 ?_;refine wpAnyH_ready (rs:=[1,4]) (by kernel_rfl) (by simp) ?_;refine(AllReadyH.cons rfl (fun K hK=>?_) (AllReadyH.cons rfl (fun K hK=>?_) AllReadyH.nil));go_simp;refine hK _ _ (by first | with_reducible exact hHeld | ((try dsimp only);go_keep)) (fun hHeld=>?_);clear hK
    try simp only[Act.put,xA,xB,xC,xD,xE,xF]
    refine Xs 4 (fun K hK=>?_);go_simp
    go_at_call 21
    refine(HHA.out _ HM9d.sa).mono ?_;rintro e w10 ⟨rfl,hw10⟩;subst hw10;refine hK _ _ trivial (fun hHeld=>?_);clear hK;refine Xs 5 (fun K hK=>?_);go_simp;refine hK _ _ (by first | with_reducible exact hHeld | ((try dsimp only);go_keep)) (fun hHeld=>?_);clear hK;rotate_left;go_simp
    go_at_call 21
    refine(HHA.out _ HM9d.sa).mono ?_;rintro e w10 ⟨rfl,hw10⟩;subst hw10;refine hK _ _ trivial (fun hHeld=>?_);clear hK
    try simp only[Act.put,xA,xB,xC,xD,xE,xF]
    refine wpAnyH_ready (rs:=[1,5]) (by kernel_rfl) (by simp) ?_;refine(AllReadyH.cons rfl (fun K hK=>?_) (AllReadyH.cons rfl (fun K hK=>?_) AllReadyH.nil));go_simp;refine hK _ _ (by first | with_reducible exact hHeld | ((try dsimp only);go_keep)) (fun hHeld=>?_);clear hK
    try simp only[Act.put,xA,xB,xC,xD,xE,xF]
    refine Xs 5 (fun K hK=>?_);go_simp;refine hK _ _ (by first | with_reducible exact hHeld | ((try dsimp only);go_keep)) (fun hHeld=>?_);clear hK;rotate_left;go_simp;refine hK _ _ (by first | with_reducible exact hHeld | ((try dsimp only);go_keep)) (fun hHeld=>?_);clear hK
    try simp only[Act.put,xA,xB,xC,xD,xE,xF]
    refine Xs 1 (fun K hK=>?_);go_simp;refine hK _ _ (by first | with_reducible exact hHeld | ((try dsimp only);go_keep)) (fun hHeld=>?_);clear hK
    all_goals (
     refine Xs 6 (fun K hK=>?_);refine XQ rfl _ _ 48 rfl (w1.heap.size+1) 4 i2 (.bool false) 1 1 Tryd.underlying48 hi2 hv0 hv1 hv2 rfl (by decide) (.slice p2 b c2) b ((List.range b).map fun z:Nat=>.bool (XT (Xk F) (z:Int))) rfl ?s1 ⟨w9.heap.size,0,none⟩ 1 1 [.bool (XT (Xk F) (b:Int))] rfl rfl ?s2 ?s3 ?s4 ?s5 ?s6 ?_
     case s1=>exact HM9d.fl.o2.alloc _
     case s2=>exact Xz _ _ _
     case s3=>intro u hu;simp at hu;subst hu;rfl
     case s4=>unfold maxLen;omega
     case s5=>omega
     case s6=>simp;omega
     intro v11 w11 hown11 hg11 _ hat11;obtain⟨g11,c11,rfl,hg11r,_⟩:=Xh hown11 (by omega);obtain⟨hM11,ce11,fe11,hbl11⟩:=HM9d.app2 hg11 hown11 (by simpa using hat11);have z0:w11.cell? ⟨w1.heap.size,1,none⟩=some (.slice p2 b c2):=(ce11 1).trans HM9d.fl.e1;have zf:=fe11 1;have HM11:=Xa hM11;clear hown11 hg11 hat11 hM11 ce11 fe11 hbl11;refine hK _ _ trivial (fun hHeld=>?_);clear hK;refine Xr 7 ?_;refine Xs 8 (fun K hK=>?_);go_simp;refine hK _ _ trivial (fun hHeld=>?_);clear hK;refine Y5 ?_;clear hHeld z0 zf;generalize w11.setCell ⟨w1.heap.size,1,none⟩ (.slice (some ⟨g11,0,none⟩) (b+1) c11)=w12 at *
     go_wp2_with fail
     exact⟨⟨b+1,_,c8,_,c11,_,by omega,by go_num,HM11⟩,by simp[intOf];omega⟩)
   ·skip
    go_simp
    go_at_call 19
    refine(HPR.out _ HBd.out (b:Int)).mono ?_;rintro e w5 ⟨ua,uc,rfl,hb5,hi5⟩;have HM5:=Xa (HMd.newU (u:=.slice ua (predsFrom xs 0 (b:Int)).length uc) (uc:=uc) hb5 rfl hi5);have y0:=HM5.fl.e0;have yl:=HM5.fl.lt;have yf0:=(hb5.cell (p:=⟨w.heap.size,0,none⟩) hlr).trans g0;have yf1:=(hb5.cell (p:=⟨w.heap.size,1,none⟩) hlr).trans g1;have hz5:wr.heap.size<=w5.heap.size:=hb5.size;clear hb5 hi5;generalize (predsFrom xs 0 (b:Int)).length=ul at *;refine hK _ _ ⟨yf0,yf1⟩ (fun hHeld=>?_);clear hK
    try simp only[Act.put,xA,xB,xC,xD,xE,xF]
    refine Xr 5 ?_;refine wpAnyH_ready (rs:=[1,6]) (by kernel_rfl) (by simp) ?_;refine(AllReadyH.cons rfl (fun K hK=>?_) (AllReadyH.cons rfl (fun K hK=>?_) AllReadyH.nil))
    ·skip
     go_simp;refine hK _ _ (by first | with_reducible exact hHeld | ((try dsimp only);go_keep)) (fun hHeld=>?_);clear hK
     try simp only[Act.put,xA,xB,xC,xD,xE,xF]
     refine Xs 6 (fun K hK=>?_);go_simp;refine hK _ _ (by first | with_reducible exact hHeld | ((try dsimp only);go_keep)) (fun hHeld=>?_);clear hK;refine Xs 7 (fun K hK=>?_);refine XQ rfl _ _ 27 rfl (w1.heap.size+1) 47 i1 (.agg #[.slice none 0 0]) 1 24 Tryd.underlying27 hi1 hy0 hy1 hy2 rfl (by decide) (.slice p1 b c1) b ((List.range b).map (fun i=>if i=b then Value.slice ua ul uc else U i)) rfl ?s1 ⟨w5.heap.size,0,none⟩ 1 1 [.slice ua ul uc] rfl rfl ?s2 ?s3 ?s4 ?s5 ?s6 ?_
     case s1=>exact HM5.fl.o1.alloc _
     case s2=>exact Xz _ _ _
     case s3=>intro u hu;simp at hu;subst hu;rfl
     case s4=>unfold maxLen;omega
     case s5=>omega
     case s6=>simp;omega
     intro v8 w8 hown8 hg8 _ hat8;obtain⟨g8,c8,rfl,hg8r,_⟩:=Xh hown8 (by omega);obtain⟨hM8,ce8,fe8,hbl8⟩:=HM5.app1 hg8 (by rw[if_pos rfl];exact hown8) (by simpa using hat8);have z0:w8.cell? ⟨w1.heap.size,0,none⟩=some (.slice p1 b c1):=(ce8 0).trans HM5.fl.e0;have zf:=fe8 0;have za:w8.cell? ⟨w.heap.size,0,none⟩=some (.int .i64 v):=(hbl8.cell (p:=⟨w.heap.size,0,none⟩) hlw).trans yf0;have zb:w8.cell? ⟨w.heap.size,1,none⟩=some (.slice a n c):=(hbl8.cell (p:=⟨w.heap.size,1,none⟩) hlw).trans yf1;have HM8:=Xa hM8;clear hown8 hg8 hat8 hM8 ce8 fe8 hbl8;refine hK _ _ ⟨za,zb⟩ (fun hHeld=>?_);clear hK;refine Xr 8 ?_;refine Xs 9 (fun K hK=>?_);go_simp;refine hK _ _ ⟨(Xc (Below.heap_setCell _ _ _ _ hn0)).trans za,(Xc (Below.heap_setCell _ _ _ _ hn0)).trans zb⟩ (fun hHeld=>?_);clear hK;refine Y5 ?_;clear hHeld z0 zf za zb y0 yl yf0 yf1 m0;generalize w8.setCell ⟨w1.heap.size,0,none⟩ (.slice (some ⟨g8,0,none⟩) (b+1) c8)=w9 at *;have HM9d:=Xa (HM8.below (Below.refl w9.heap.size w9).drew);have x1:=HM8.fl.e1;have xl:=HM8.fl.lt;obtain⟨i2,hi2,hv0,hv1,hv2⟩:=Xp Tryd.infoBo;have HHA:=Xa (fun W (h:Yp (w1.heap.size+1) w2.heap.size w2 W)=>Jc a2 lF c2' b (Xk F) (w1.heap.size+1) w2.heap.size W (Xa (HI2.keepS h)) HLF (by omega))
     go_wp2_with fail
     refine YS (fun _=>True) (fun hHeld=>?_);refine Xr 0 ?_;refine Xr 2 ?_;refine Xr 3 ?_;refine wpAnyH_ready (rs:=[1,4]) (by kernel_rfl) (by simp) ?_;refine(AllReadyH.cons rfl (fun K hK=>?_) (AllReadyH.cons rfl (fun K hK=>?_) AllReadyH.nil));go_simp;refine hK _ _ (by first | with_reducible exact hHeld | ((try dsimp only);go_keep)) (fun hHeld=>?_);clear hK
     try simp only[Act.put,xA,xB,xC,xD,xE,xF]
     refine Xs 4 (fun K hK=>?_);go_simp
     go_at_call 21
     refine(HHA.out _ HM9d.sa).mono ?_;rintro e w10 ⟨rfl,hw10⟩;subst hw10;refine hK _ _ trivial (fun hHeld=>?_);clear hK;refine Xs 5 (fun K hK=>?_);go_simp;refine hK _ _ (by first | with_reducible exact hHeld | ((try dsimp only);go_keep)) (fun hHeld=>?_);clear hK;rotate_left;go_simp
     go_at_call 21
     refine(HHA.out _ HM9d.sa).mono ?_;rintro e w10 ⟨rfl,hw10⟩;subst hw10;refine hK _ _ trivial (fun hHeld=>?_);clear hK
     try simp only[Act.put,xA,xB,xC,xD,xE,xF]
     refine wpAnyH_ready (rs:=[1,5]) (by kernel_rfl) (by simp) ?_;refine(AllReadyH.cons rfl (fun K hK=>?_) (AllReadyH.cons rfl (fun K hK=>?_) AllReadyH.nil));go_simp;refine hK _ _ (by first | with_reducible exact hHeld | ((try dsimp only);go_keep)) (fun hHeld=>?_);clear hK
     try simp only[Act.put,xA,xB,xC,xD,xE,xF]
     refine Xs 5 (fun K hK=>?_);go_simp;refine hK _ _ (by first | with_reducible exact hHeld | ((try dsimp only);go_keep)) (fun hHeld=>?_);clear hK;rotate_left;go_simp;refine hK _ _ (by first | with_reducible exact hHeld | ((try dsimp only);go_keep)) (fun hHeld=>?_);clear hK
     try simp only[Act.put,xA,xB,xC,xD,xE,xF]
     refine Xs 1 (fun K hK=>?_);go_simp;refine hK _ _ (by first | with_reducible exact hHeld | ((try dsimp only);go_keep)) (fun hHeld=>?_);clear hK
     all_goals (
      refine Xs 6 (fun K hK=>?_);refine XQ rfl _ _ 48 rfl (w1.heap.size+1) 4 i2 (.bool false) 1 1 Tryd.underlying48 hi2 hv0 hv1 hv2 rfl (by decide) (.slice p2 b c2) b ((List.range b).map fun z:Nat=>.bool (XT (Xk F) (z:Int))) rfl ?s1 ⟨w9.heap.size,0,none⟩ 1 1 [.bool (XT (Xk F) (b:Int))] rfl rfl ?s2 ?s3 ?s4 ?s5 ?s6 ?_
      case s1=>exact HM9d.fl.o2.alloc _
      case s2=>exact Xz _ _ _
      case s3=>intro u hu;simp at hu;subst hu;rfl
      case s4=>unfold maxLen;omega
      case s5=>omega
      case s6=>simp;omega
      intro v11 w11 hown11 hg11 _ hat11;obtain⟨g11,c11,rfl,hg11r,_⟩:=Xh hown11 (by omega);obtain⟨hM11,ce11,fe11,hbl11⟩:=HM9d.app2 hg11 hown11 (by simpa using hat11);have z0:w11.cell? ⟨w1.heap.size,1,none⟩=some (.slice p2 b c2):=(ce11 1).trans HM9d.fl.e1;have zf:=fe11 1;have HM11:=Xa hM11;clear hown11 hg11 hat11 hM11 ce11 fe11 hbl11;refine hK _ _ trivial (fun hHeld=>?_);clear hK;refine Xr 7 ?_;refine Xs 8 (fun K hK=>?_);go_simp;refine hK _ _ trivial (fun hHeld=>?_);clear hK;refine Y5 ?_;clear hHeld z0 zf;generalize w11.setCell ⟨w1.heap.size,1,none⟩ (.slice (some ⟨g11,0,none⟩) (b+1) c11)=w12 at *
      go_wp2_with fail
      exact⟨⟨b+1,_,c8,_,c11,_,by omega,by go_num,HM11⟩,by simp[intOf];omega⟩)
    ·skip
     go_simp;refine hK _ _ (by first | with_reducible exact hHeld | ((try dsimp only);go_keep)) (fun hHeld=>?_);clear hK
     try simp only[Act.put,xA,xB,xC,xD,xE,xF]
     refine Xs 1 (fun K hK=>?_);go_simp;refine hK _ _ (by first | with_reducible exact hHeld | ((try dsimp only);go_keep)) (fun hHeld=>?_);clear hK;refine Xs 7 (fun K hK=>?_);refine XQ rfl _ _ 27 rfl (w1.heap.size+1) 47 i1 (.agg #[.slice none 0 0]) 1 24 Tryd.underlying27 hi1 hy0 hy1 hy2 rfl (by decide) (.slice p1 b c1) b ((List.range b).map (fun i=>if i=b then Value.slice ua ul uc else U i)) rfl ?s1 ⟨w5.heap.size,0,none⟩ 1 1 [.slice ua ul uc] rfl rfl ?s2 ?s3 ?s4 ?s5 ?s6 ?_
     case s1=>exact HM5.fl.o1.alloc _
     case s2=>exact Xz _ _ _
     case s3=>intro u hu;simp at hu;subst hu;rfl
     case s4=>unfold maxLen;omega
     case s5=>omega
     case s6=>simp;omega
     intro v8 w8 hown8 hg8 _ hat8;obtain⟨g8,c8,rfl,hg8r,_⟩:=Xh hown8 (by omega);obtain⟨hM8,ce8,fe8,hbl8⟩:=HM5.app1 hg8 (by rw[if_pos rfl];exact hown8) (by simpa using hat8);have z0:w8.cell? ⟨w1.heap.size,0,none⟩=some (.slice p1 b c1):=(ce8 0).trans HM5.fl.e0;have zf:=fe8 0;have za:w8.cell? ⟨w.heap.size,0,none⟩=some (.int .i64 v):=(hbl8.cell (p:=⟨w.heap.size,0,none⟩) hlw).trans yf0;have zb:w8.cell? ⟨w.heap.size,1,none⟩=some (.slice a n c):=(hbl8.cell (p:=⟨w.heap.size,1,none⟩) hlw).trans yf1;have HM8:=Xa hM8;clear hown8 hg8 hat8 hM8 ce8 fe8 hbl8;refine hK _ _ ⟨za,zb⟩ (fun hHeld=>?_);clear hK;refine Xr 8 ?_;refine Xs 9 (fun K hK=>?_);go_simp;refine hK _ _ ⟨(Xc (Below.heap_setCell _ _ _ _ hn0)).trans za,(Xc (Below.heap_setCell _ _ _ _ hn0)).trans zb⟩ (fun hHeld=>?_);clear hK;refine Y5 ?_;clear hHeld z0 zf za zb y0 yl yf0 yf1 m0;generalize w8.setCell ⟨w1.heap.size,0,none⟩ (.slice (some ⟨g8,0,none⟩) (b+1) c8)=w9 at *;have HM9d:=Xa (HM8.below (Below.refl w9.heap.size w9).drew);have x1:=HM8.fl.e1;have xl:=HM8.fl.lt;obtain⟨i2,hi2,hv0,hv1,hv2⟩:=Xp Tryd.infoBo;have HHA:=Xa (fun W (h:Yp (w1.heap.size+1) w2.heap.size w2 W)=>Jc a2 lF c2' b (Xk F) (w1.heap.size+1) w2.heap.size W (Xa (HI2.keepS h)) HLF (by omega))
     go_wp2_with fail
     refine YS (fun _=>True) (fun hHeld=>?_);refine Xr 0 ?_;refine Xr 2 ?_;refine Xr 3 ?_;refine wpAnyH_ready (rs:=[1,4]) (by kernel_rfl) (by simp) ?_;refine(AllReadyH.cons rfl (fun K hK=>?_) (AllReadyH.cons rfl (fun K hK=>?_) AllReadyH.nil));go_simp;refine hK _ _ (by first | with_reducible exact hHeld | ((try dsimp only);go_keep)) (fun hHeld=>?_);clear hK
     try simp only[Act.put,xA,xB,xC,xD,xE,xF]
     refine Xs 4 (fun K hK=>?_);go_simp
     go_at_call 21
     refine(HHA.out _ HM9d.sa).mono ?_;rintro e w10 ⟨rfl,hw10⟩;subst hw10;refine hK _ _ trivial (fun hHeld=>?_);clear hK;refine Xs 5 (fun K hK=>?_);go_simp;refine hK _ _ (by first | with_reducible exact hHeld | ((try dsimp only);go_keep)) (fun hHeld=>?_);clear hK;rotate_left;go_simp
     go_at_call 21
     refine(HHA.out _ HM9d.sa).mono ?_;rintro e w10 ⟨rfl,hw10⟩;subst hw10;refine hK _ _ trivial (fun hHeld=>?_);clear hK
     try simp only[Act.put,xA,xB,xC,xD,xE,xF]
     refine wpAnyH_ready (rs:=[1,5]) (by kernel_rfl) (by simp) ?_;refine(AllReadyH.cons rfl (fun K hK=>?_) (AllReadyH.cons rfl (fun K hK=>?_) AllReadyH.nil));go_simp;refine hK _ _ (by first | with_reducible exact hHeld | ((try dsimp only);go_keep)) (fun hHeld=>?_);clear hK
     try simp only[Act.put,xA,xB,xC,xD,xE,xF]
     refine Xs 5 (fun K hK=>?_);go_simp;refine hK _ _ (by first | with_reducible exact hHeld | ((try dsimp only);go_keep)) (fun hHeld=>?_);clear hK;rotate_left;go_simp;refine hK _ _ (by first | with_reducible exact hHeld | ((try dsimp only);go_keep)) (fun hHeld=>?_);clear hK
     try simp only[Act.put,xA,xB,xC,xD,xE,xF]
     refine Xs 1 (fun K hK=>?_);go_simp;refine hK _ _ (by first | with_reducible exact hHeld | ((try dsimp only);go_keep)) (fun hHeld=>?_);clear hK
     all_goals (
      refine Xs 6 (fun K hK=>?_);refine XQ rfl _ _ 48 rfl (w1.heap.size+1) 4 i2 (.bool false) 1 1 Tryd.underlying48 hi2 hv0 hv1 hv2 rfl (by decide) (.slice p2 b c2) b ((List.range b).map fun z:Nat=>.bool (XT (Xk F) (z:Int))) rfl ?s1 ⟨w9.heap.size,0,none⟩ 1 1 [.bool (XT (Xk F) (b:Int))] rfl rfl ?s2 ?s3 ?s4 ?s5 ?s6 ?_
      case s1=>exact HM9d.fl.o2.alloc _
      case s2=>exact Xz _ _ _
      case s3=>intro u hu;simp at hu;subst hu;rfl
      case s4=>unfold maxLen;omega
      case s5=>omega
      case s6=>simp;omega
      intro v11 w11 hown11 hg11 _ hat11;obtain⟨g11,c11,rfl,hg11r,_⟩:=Xh hown11 (by omega);obtain⟨hM11,ce11,fe11,hbl11⟩:=HM9d.app2 hg11 hown11 (by simpa using hat11);have z0:w11.cell? ⟨w1.heap.size,1,none⟩=some (.slice p2 b c2):=(ce11 1).trans HM9d.fl.e1;have zf:=fe11 1;have HM11:=Xa hM11;clear hown11 hg11 hat11 hM11 ce11 fe11 hbl11;refine hK _ _ trivial (fun hHeld=>?_);clear hK;refine Xr 7 ?_;refine Xs 8 (fun K hK=>?_);go_simp;refine hK _ _ trivial (fun hHeld=>?_);clear hK;refine Y5 ?_;clear hHeld z0 zf;generalize w11.setCell ⟨w1.heap.size,1,none⟩ (.slice (some ⟨g11,0,none⟩) (b+1) c11)=w12 at *
      go_wp2_with fail
      exact⟨⟨b+1,_,c8,_,c11,_,by omega,by go_num,HM11⟩,by simp[intOf];omega⟩)
  ·have hbe:n=b:=by omega
   subst hbe;have HDO1:=Xa (HDO.out wr HBw.out)
   go_wp2_with fail
   refine HDO1.mono ?_;rintro e w3 ⟨da,dc,rfl,hb3,hd3⟩;have HMI:Hid (Th (XW xs) n ((List.range n).map (idomP ((List.range n).map (Z1 (XW xs) n))))):=Xa (by rw[hx.out];exact HOK.model);have HID:=Xa (WS da n dc ((List.range n).map (Z1 (XW xs) n)) wr.heap.size w3.heap.size w3 (Xa (by rw[List.map_map];exact hd3)) (Xa (by simp)) hn2 (Nat.le_refl _) (Xa (fun l hl=>by
    obtain⟨b,_,rfl⟩:=List.mem_map.1 hl;exact⟨Nat.le_trans (ZgZ n b) hn2,fun a ha=>(Z3.1 ha).1⟩)))
   have HM3:=Xa (HMb.below hb3);have hz3:=hb3.size;clear hb3 hd3 HDO1
   go_wp2_with fail
   refine HID.mono ?_;rintro e w4 ⟨v4,rfl,hb4,ho4⟩;obtain⟨P,hP⟩:∃P,P=(List.range n).map (idomP ((List.range n).map (Z1 (XW xs) n))):=⟨_,rfl⟩;rw[<-hP]at HMI ho4;obtain⟨g3,c3,rfl,hg3,_⟩:=Xh ho4 hn1;have HM4:=Xa (HM3.below hb4);have HO4:=Xa ho4;have hz4:=hb4.size;have t2:=HM4.fl.e2;have t3:=HM4.fl.e3;have tz:=HM4.fl.thaw;have h0':=(HM4.fl.bel.cell (p:=⟨w.heap.size,0,none⟩) hlw).trans K01.1;have h1':=(HM4.fl.bel.cell (p:=⟨w.heap.size,1,none⟩) hlw).trans K01.2;have hnf:w.heap.size≠w1.heap.size:=by omega
   have hnf2:w1.heap.size≠w.heap.size:=by omega
   clear hb4 ho4 HID hP g0 g1;have t0:=HM4.fl.e0;have t1:=HM4.fl.e1;have hpz:Hid ((P.map (Value.int .i64)).length=n*1):=Xa (by simp[HMI.len]);have HI4:Hid (Xe w4 w3.heap.size w4.heap.size (some ⟨g3,0,none⟩) P):=Xa (by
    obtain⟨a',c',hv',hi'⟩:=Xn HO4.out;injection hv' with e1;rw[e1];exact hi')
   have hl4:=HM4.fl.lt;have hl3:w1.heap.size<w3.heap.size:=by omega
   have hR4:Hid (w4.rowIs (w.heap.size+1) 50 4 (fun _=>.slice none 0 0)):=Xa (HR1.of_block (HM4.fl.bel.block _ HR1.lt));have HPS:=Xa (fun W (hW:W=w4.setCell ⟨w1.heap.size,2,none⟩ (.slice (some ⟨g3,0,none⟩) n c3))=>ZfD (some ⟨g3,0,none⟩) n c3 P w3.heap.size w4.heap.size (Xa HMI.len.symm) hn2 (Re (XW xs)) (Xa (fun b c _ hc=>(U8 HMI.out hc).dom.rb)) (Xa (fun m b hb=>Nat.le_trans (ZfY HMI.out HRE.out m b hb) hn2)) n 0 W (Xa (HI4.keepS (fun k h1 h2=>by rw[hW];exact Below.heap_setCell _ _ _ _ (by dsimp only;omega)))) (by rw[hW,Xd];exact Nat.le_refl _) (Xa Re.root) hn2)
   go_wp2_with fail
   obtain⟨w5,hw5⟩:∃w5,w5=w4.setCell ⟨w1.heap.size,2,none⟩ (.slice (some ⟨g3,0,none⟩) n c3):=⟨_,rfl⟩;rw[<-hw5];have hb5:∀k,k≠w1.heap.size->w5.heap[k]?=w4.heap[k]?:=fun k hk=>by rw[hw5];exact Below.heap_setCell _ _ _ _ hk
   have hz5:w5.heap.size=w4.heap.size:=by rw[hw5,Xd]
   have s2:w5.cell? ⟨w1.heap.size,2,none⟩=some (.slice (some ⟨g3,0,none⟩) n c3):=by rw[hw5];exact World.cell?_setCell_same _ _ _ t2
   have s0:w5.cell? ⟨w1.heap.size,0,none⟩=some (.slice p1 n c1):=by rw[hw5];exact(XC _ _ (by omega) _).trans t0
   have s1:w5.cell? ⟨w1.heap.size,1,none⟩=some (.slice p2 n c2):=by rw[hw5];exact(XC _ _ (by omega) _).trans t1
   have s3:w5.cell? ⟨w1.heap.size,3,none⟩=some (.slice none 0 0):=by rw[hw5];exact(XC _ _ (by omega) _).trans t3
   have sz:∀q,w5.frozen? ⟨w1.heap.size,q,none⟩=false:=fun q=>by rw[hw5,World.frozen?_setCell];exact tz q
   have hos5:w5.os=w4.os/\w5.tape=w4.tape/\w5.output=w4.output:=by rw[hw5];exact⟨rfl,rfl,rfl⟩
   have hpp:0<(Y0 P n 0).length:=by cases n<;>simp[Y0]
   refine(HPS.out w5 hw5).mono ?_;rintro e w6 ⟨v6,rfl,hb6,ho6⟩;obtain⟨g4,c4,rfl,hg4,_⟩:=Xh ho6 hpp;have HO6:=Xa ho6;have hw6l:w1.heap.size<w5.heap.size:=by omega
   have r0:=(hb6.cell (p:=⟨w1.heap.size,0,none⟩) hw6l).trans s0;have r1:=(hb6.cell (p:=⟨w1.heap.size,1,none⟩) hw6l).trans s1;have r2:=(hb6.cell (p:=⟨w1.heap.size,2,none⟩) hw6l).trans s2;have r3:=(hb6.cell (p:=⟨w1.heap.size,3,none⟩) hw6l).trans s3;have rz:∀q,w6.frozen? ⟨w1.heap.size,q,none⟩=false:=fun q=>(World.frozen?_of_block (hb6.block _ hw6l)).trans (sz q)
   have HB46:Hid (∀k,k<w4.heap.size->k≠w1.heap.size->w6.heap[k]?=w4.heap[k]?):=Xa (fun k h1 h2=>(hb6.block k (by omega)).trans (hb5 k h2));have HOS:Hid (w6.os=w4.os/\w6.tape=w4.tape/\w6.output=w4.output):=Xa ⟨hb6.os.trans hos5.1,hb6.tape.trans hos5.2.1,hb6.output.trans hos5.2.2⟩;have hz6:=hb6.size;have hR6:w6.rowIs (w.heap.size+1) 50 4 (fun _=>.slice none 0 0):=hR4.of_block (HB46.out _ (by omega) (by omega));have y0:=hR6.cell (i:=0) (by decide);have y1:=hR6.cell (i:=1) (by decide);have y2:=hR6.cell (i:=2) (by decide);have y3:=hR6.cell (i:=3) (by decide);have yf:=hR6.frozen;have hne6:w1.heap.size≠w.heap.size+1:=by omega
   have hne7:w.heap.size+1≠w1.heap.size:=by omega
   have HR6:=Xa hR6;have HG4:=Xa hg4;have HZ5:=Xa hz5;generalize hQ:(Y0 P n 0).length=ql at *;have HQ:=Xa hQ;clear hw5 hb5 s0 s1 s2 s3 sz hos5 hb6 ho6 HPS t0 t1 t2 t3 tz hR6 hz5 hQ
   go_wp2_with fail
   obtain⟨wE,hE⟩:∃wE,wE=((((w6.setCell ⟨w1.heap.size,3,none⟩ (.slice (some ⟨g4,0,none⟩) ql c4)).setCell ⟨w.heap.size+1,0,none⟩ (.slice p1 n c1)).setCell ⟨w.heap.size+1,1,none⟩ (.slice p2 n c2)).setCell ⟨w.heap.size+1,2,none⟩ (.slice (some ⟨g3,0,none⟩) n c3)).setCell ⟨w.heap.size+1,3,none⟩ (.slice (some ⟨g4,0,none⟩) ql c4):=⟨_,rfl⟩;rw[<-hE];obtain⟨z0,z1,z2,z3,hbk,hsz,hos,htp,hou⟩:=ZiM HR6.out hne7 _ _ _ _ _ wE hE;clear hE;refine bodyPost_ret (v:=.agg #[.slice p1 n c1,.slice p2 n c2,.slice (some ⟨g3,0,none⟩) n c3,.slice (some ⟨g4,0,none⟩) ql c4]) (by simp[results,Tryd.results10,go_sem,z0,z1,z2,z3]) rfl ?_;have hz5:=HZ5.out;have hg4:=HG4.out;have hb4E:∀k,k<w4.heap.size->k≠w1.heap.size->k≠w.heap.size+1->wE.heap[k]?=w4.heap[k]?:=fun k h1 h2 h3=>(hbk k h2 h3).trans (HB46.out k h1 h2)
   obtain⟨g1,q1,e1,hg1,_⟩:=Xh HM4.fl.o1 hn1;obtain⟨g2,q2,e2,hg2,_⟩:=Xh HM4.fl.o2 hn1;injection e1 with e1a e1b e1c;injection e2 with e2a e2b e2c;subst e1a;subst e2a;refine⟨P,some ⟨g1,0,none⟩,c1,some ⟨g2,0,none⟩,c2,some ⟨g3,0,none⟩,c3,some ⟨g4,0,none⟩,c4,by rw[HQ.out],?_,HMI.out,?_,?_,?_,?_⟩
   ·have hB4:=HB1.trans (HM4.fl.bel.mono (Nat.le_of_lt hlw))
    exact⟨hos.trans (HOS.1.trans hB4.os),htp.trans (HOS.2.1.trans hB4.tape),hou.trans (HOS.2.2.trans hB4.output),by have:=hB4.size;omega,fun k hk=>(hb4E k (by omega) (by omega) (by omega)).trans (hB4.block k hk)⟩
   ·intro i hi
    have hin:i<n:=by have:=hx.out;simp only[prL,List.length_map,List.length_range]at hi;omega
    obtain⟨lo,hi',a',c',q1,q2,q3,q4,q5⟩:=HM4.pr i hin;have hci:wE.cell? ⟨g1,i,none⟩=some (U i):=(World.cell?_of_block (hb4E g1 (by omega) (by omega) (by omega))).trans (Zx HM4.fl.o1 (by simp[hin]));have epr:(prL xs)[i]=predsFrom xs 0 (i:Int):=by simp[prL]
    refine⟨g1,0,rfl,⟨by omega,by omega⟩,a',c',?_,?_⟩
    ·rw[Nat.zero_add,hci,q1,epr]
    ·rw[epr]
     exact(q4.keepS (fun k h1 h2=>hb4E k (by omega) (by omega) (by omega))).mono (by omega) (by omega)
   ·intro i hi
    have hin:i<n:=by have:=hx.out;simp only[rcL,List.length_map,List.length_range]at hi;omega
    have erc:(rcL xs)[i]=Xf (Zcr xs).1 i:=by simp[rcL]
    refine⟨g2,0,rfl,⟨by omega,by omega⟩,?_⟩;rw[Nat.zero_add,erc];have hb:XT (Xk F) (i:Int)=Xf (Zcr xs).1 i:=Bool.eq_iff_iff.2 (Vf.trans ((HM2.out i).trans (HOK.top.2.1 i).symm));rw[<-hb];exact(World.cell?_of_block (hb4E g2 (by omega) (by omega) (by omega))).trans (Zx HM4.fl.o2 (by simp[hin]))
   ·exact(HI4.keepS (fun k h1 h2=>hb4E k h2 (by omega) (by omega))).mono (by omega) (by omega)
   ·intro i hi
    refine⟨g4,0,rfl,⟨by omega,by omega⟩,?_⟩;rw[Nat.zero_add];have hil:i<(Y0 P n 0).length:=by rw[YC]at hi;exact hi
    exact(World.cell?_of_block (hbk g4 (by omega) (by omega))).trans (Zx HO6.out (by simp[Zv,Xk,hil]))
end Go.Proofs.YtbofmlmdgkblkaaDoor
