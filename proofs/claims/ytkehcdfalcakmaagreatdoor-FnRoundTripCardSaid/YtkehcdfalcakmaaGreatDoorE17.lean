import Derived.Test.YtkehcdfalcakmaaGreatDoorE15
namespace Go.Proofs.YtkehcdfalcakmaaGreatDoor
set_option maxHeartbeats 2000000
set_option maxRecDepth 100000
open Go.RowKit
theorem Zf0(B:Nat)(u:Value)(xs word:List UInt8)(vs:List Int)(s:Nat)(W:World)(hs:s=W.heap.size)(hB:B<=W.heap.size)
 (ho:Hid (W.ownsRow B 5 1 u xs.length (Xp xs))) (hlen:Hid (xs.length+(lineS word vs).length<=1000000000000))
 (hin:Hid (∀v∈vs,UX v)) (htab:Hid (TabOk B W)) :
 Calls Tryz.prog 12 #[u,.string (Xs word),.slice (some ⟨s,0,none⟩) vs.length vs.length] (W.alloc (.cells (vs.map (Value.int .i64)).toArray 2)) fun e w' =>
  ∃v,e=.returned v/\Kp B W w'/\w'.ownsRow B 5 1 v (xs++lineS word vs).length (Xp (xs++lineS word vs)):=by
 subst hs;have hst:=V5 (B:=B) (B0:=B) (g:=W.heap.size) (w':=W.alloc (.cells (vs.map (Value.int .i64)).toArray 2)) (qs:=vs) ⟨_,_,heap_alloc_new W _⟩ hB (fun i hi=>by
  obtain⟨b,o,e,_,h⟩:=ZeV W vs i hi;cases e;exact h)
 refine(YQ B u xs word _ vs.length vs.length vs B _ _ (by simp;omega) (Xa (ho.alloc _)) hlen (Xa hst) (Xa rfl) hin (Xa (htab.on ((Below.refl _ _).alloc hB _)))).mono ?_;rintro e w' ⟨v,rfl,h1,h2⟩;exact⟨v,rfl,((Kp.refl B W).alloc hB _).trans h1,h2⟩
theorem Zga(B:Nat)(u:Value)(xs word:List UInt8)(W:World)(hB:B<=W.heap.size)
 (ho:Hid (W.ownsRow B 5 1 u xs.length (Xp xs))) (hlen:Hid (xs.length+(lineS word []).length<=1000000000000)) (htab:Hid (TabOk B W)) :
 Calls Tryz.prog 12 #[u,.string (Xs word),.slice none 0 0] W fun e w' =>
  ∃v,e=.returned v/\Kp B W w'/\w'.ownsRow B 5 1 v (xs++lineS word []).length (Xp (xs++lineS word [])) :=
 YQ B u xs word none 0 0 [] 0 0 W hB ho hlen (Xa (fun _ _ i hi=>absurd hi (by simp))) (Xa rfl) (Xa (fun v hv=>by cases hv)) htab
theorem Wm(F:Fn)(h:Yx F=true):∀x∈F.blocks,∀p∈x.phis,1<=p.args.length:=by
 intro x hx p hp;obtain⟨b,hb,rfl⟩:=List.getElem_of_mem hx;have H:=ZaZ F h b hb;have e:=V1 F b hb;have hP:=H.phi;obtain⟨i,hi,rfl⟩:=List.getElem_of_mem hp;have h1:=hP i (by rw[e];exact hi);simp only[e]at h1;simp only[Zd,ZB,Bool.and_eq_true,decide_eq_true_eq]at h1;exact h1.2.1.1
theorem Zd4(Wp W:World)(b o cap:Nat)(vs:List Int)(L B:Nat)(hv:Xh Wp L B (some ⟨b,o,none⟩) vs)(hB:B<=Wp.heap.size)(hn9:vs.length<=1000000000)(hW:Below Wp.heap.size Wp W) :
 Calls Tryz.prog 14 #[.slice (some ⟨b,o,none⟩) vs.length cap] W fun e w'=>∃g cc,e=.returned (.slice (some ⟨g,0,none⟩) vs.length cc)/\Below W.heap.size W w'/\W.heap.size<=g/\g<w'.heap.size/\w'.ownsRow W.heap.size 2 1 (.slice (some ⟨g,0,none⟩) vs.length cc) vs.length (vs.map (Value.int .i64)):=by
 refine(Zem b o vs.length cap vs L B W (Xa (hv.keep (hW.mono hB))) (Xa rfl) hn9 (Nat.le_trans hB hW.size)).mono ?_;rintro e w' ⟨v,rfl,hb,hne,hown⟩;have ho:=hown;obtain⟨hl,h0 | ⟨g,cc,cur,rfl,hg,hh,r⟩⟩:=hown
 ·exact absurd h0.1 hne
 ·exact⟨g,cc,rfl,hb,hg,(Array.getElem?_eq_some_iff.1 hh).1,ho⟩
theorem ZcB(B:Nat)(Wp W:World)(g cc vb:Nat)(d:Int)(vs:List Int)(hn:1<=vs.length)(hn9:vs.length<=1000000000)(hW:Below Wp.heap.size Wp W)(ho:W.ownsRow Wp.heap.size 2 1 (.slice (some ⟨g,0,none⟩) vs.length cc) vs.length (vs.map (Value.int .i64)))
 (hvb:vb≠g) (hvh:W.heap[vb]?=some (.cells #[.int .i64 d] 2 (0,0))) :
 Calls Tryz.prog 13 #[.slice (some ⟨g,0,none⟩) vs.length cc,.int .i64 0,.slice (some ⟨vb,0,none⟩) 1 1] W fun e w' =>
  ∃qa qc,e=.returned (.slice qa (vs.length+1) qc)/\Below Wp.heap.size Wp w'/\(∀w'',Kp B w' w''->Xh w'' Wp.heap.size w'.heap.size qa (d::vs)):=by
 refine(Zcl B g vs.length cc vb Wp.heap.size d vs W hn rfl hn9 ho hvb hvh).mono ?_;rintro e w' ⟨qa,qc,rfl,hb,hst⟩;exact⟨qa,qc,rfl,hW.trans hb,hst⟩
theorem ZfO(B:Nat)(u:Value)(xs:List UInt8)(P:Ph)(Wp W:World)(qa:Option Addr)(qc L M:Nat)(hB:B<=Wp.heap.size)(hW:Below Wp.heap.size Wp W)(ho:Wp.ownsRow B 5 1 u xs.length (Xp xs))
 (hlen:xs.length+(ZH P).length<=1000000000000) (hin:∀v∈P.dst::P.args,UX v) (htab:TabOk B Wp) (hst:∀w'',Kp B W w''->Xh w'' L M qa (P.dst::P.args)) :
 Calls Tryz.prog 12 #[u,.string (Xs [112,104,105]),.slice qa (P.args.length+1) qc] W fun e w' =>
  ∃v,e=.returned v/\Kp B Wp w'/\w'.ownsRow B 5 1 v (xs++ZH P).length (Xp (xs++ZH P)):=by
 have hs:=hW.size;refine(YQ B u xs [112,104,105] qa (P.args.length+1) qc (P.dst::P.args) L M W (by omega) (Xa (Uc ho hW)) (Xa hlen) (Xa hst) (Xa rfl) (Xa hin) (Xa (htab.on (hW.mono hB)))).mono ?_;rintro e w' ⟨v,rfl,h1,h2⟩;exact⟨v,rfl,(Kp.calm hW hB).trans h1,h2⟩
theorem Zfg(V:Int)(a:Option Addr)(n c:Nat)(xs:List Xf)(L B:Nat)(w:World)(ha:Hid (X8 w L B a xs))(hx:Hid (n=xs.length))(hs:Hid (xs.length+Xn xs<=1048576))(hB:B<=w.heap.size)(hO:Hid (Ym w))(hT:Hid (XR w))(hP:Hid (TabOk w.heap.size w))
 (HV:Hid (Yx ⟨V,xs⟩=true)) :
 Calls Tryz.prog 5 #[.agg #[.int .i64 V,.slice a n c]] w fun e w'=>∃v,e=.returned v/\Below w.heap.size w w'/\w'.ownsRow w.heap.size 5 1 v (Jn ⟨V,xs⟩).length (Xp (Jn ⟨V,xs⟩)):=by
 obtain⟨o1,o2,o3⟩:=ZaG _ HV.out;have O1:=Xa o1;have O2:=Xa o2;have O3:=Xa o3;have hn:n<=1048576:=by have:=hx.out;have:=hs.out;omega
 have HLEN:Hid ((Jn ⟨V,xs⟩).length<=1000000000000):=Xa (by have:=ZgM ⟨V,xs⟩ o1 o2;have h2:=hs.out;simp only at this;omega);have hB1:0 < w.heap.size/\1 < w.heap.size:=⟨hO.1,hT.1⟩;clear o1 o2 o3;have HF:Hid (∀w1,Below (w.alloc (.cells #[.int .i64 V,.slice a n c] 25)).heap.size (w.alloc (.cells #[.int .i64 V,.slice a n c] 25)) w1->w.heap.size+1<=w1.heap.size/\w1.cell? ⟨w.heap.size,0,none⟩=some (.int .i64 V)/\w1.cell? ⟨w.heap.size,1,none⟩=some (.slice a n c)/\Hid (Below w.heap.size w w1)):=Xa (fun w1 hb1=>by
  refine⟨by have:=hb1.size;simpa using this,(hb1.cell (p:=⟨w.heap.size,0,none⟩) (by simp)).trans (by simp),(hb1.cell (p:=⟨w.heap.size,1,none⟩) (by simp)).trans (by simp),Xa ((Xb (Below.refl w.heap.size w) _).trans (hb1.mono (by simp)))⟩)
 have HVS:Hid (Ki ⟨V,xs⟩=true):=Xa (by rw[Zp];exact HV.out)
 go_enter Tryz.func5,Tryz.ntmps5
 go_wp2_with fail
 refine(YU V a n c xs L B _ (Xa (ha.keep ((Xb (Below.refl w.heap.size w) _).mono hB))) hx hs (by simp;omega) (Xa (hO.keep (Xb (Below.refl w.heap.size w) _) (by omega)).old) (Xa (hT.keep (Xb (Below.refl w.heap.size w) _) (by omega)).old)).mono ?_;rintro e w1 ⟨rfl,hb1⟩;rw[HVS.out];obtain⟨hz,k0,k1,HB1⟩:=HF.out _ hb1;have HH1:Hid (∃c fz,w1.heap[w.heap.size]?=some (.cells c 25 fz)):=Xa ⟨_,_,(hb1.block w.heap.size (by simp)).trans (heap_alloc_new w _)⟩;clear hb1;have hz':w.heap.size<w1.heap.size:=by omega
 have HK1:Hid (Kp w.heap.size w w1):=Xa (Kp.calm HB1.out (Nat.le_refl _));have HL1:Hid (([]:List UInt8).length+(lineS [102,117,110,99] [V]).length<=1000000000000):=Xa (by have:=HLEN.out;unfold Jn at this;simp only[List.length_append,List.length_nil]at this |-;omega);have HKF:Hid (∀w2,Kp w.heap.size (w1.alloc (.cells #[] 5)) w2->Kp w.heap.size w w2/\w2.cell? ⟨w.heap.size,1,none⟩=some (.slice a n c)):=Xa (fun w2 hk=>by
  obtain⟨c0,fz,hh⟩:=HH1.out;have h1:Kp w.heap.size w1 w2:=((Kp.refl _ w1).alloc (by omega) _).trans hk;have h2:=h1.kept w.heap.size _ hh (by simp) (fun c' fz' e'=>by cases e');exact⟨HK1.trans h1,(Xc (h2.trans hh.symm)).trans k1⟩)
 go_wp2_with (go_at_call 12;refine(Zf0 w.heap.size _ [] [102,117,110,99] [V] _ (w1.alloc (.cells #[] 5)) (by simp) (by simp;omega) (Xa (Yn (ZbO w1) (by omega))) HL1 (Xa (fun v h=>by simp at h;exact h ▸ O1.out)) (Xa (hP.on ((HB1.alloc (by omega) _))))).mono ?_;rintro e w2 ⟨x2,rfl,hk2,ho2⟩;obtain⟨hk3,k2⟩:=HKF.out _ hk2;have HK2:=Xa hk3;have HO2:=Xa ho2;clear hk2 hk3 ho2)
 have HARG:=Xa (Wm _ HV.out)
 go_loopw [3,20] (fun x i wr=>∃k:Nat,k<=n/\i=.int .i64 k/\Hid (Kp w.heap.size w wr)/\Hid (wr.ownsRow w.heap.size 5 1 x (lineS [102,117,110,99] [V]++(xs.take k).flatMap ZI).length (Xp (lineS [102,117,110,99] [V]++(xs.take k).flatMap ZI)))) (fun _ i _=>n-(intOf i).toNat)
 case atStart=>exact⟨0,Nat.zero_le _,rfl,HK2,Xa (by simpa using HO2.out)⟩
 case round =>
  clear HK2 HO2 HK1 HB1 HH1 HKF HF k0 k1 k2 hz hz';obtain⟨k,hk,rfl,HK,HO⟩:=hrel;have hwz:=HK.below.size;by_cases hlt:k<n
  ·have hkx:k<xs.length:=by have:=hx.out;omega
   have HKX:=Xa (O2.out xs[k] (List.getElem_mem hkx));have hop:=Xa (O3.out xs[k] (List.getElem_mem hkx)).1;have hkd:=Xa (O3.out xs[k] (List.getElem_mem hkx)).2;have HAR:=Xa (HARG.out xs[k] (List.getElem_mem hkx));obtain⟨b,o,rfl,⟨hbL,hbB⟩,hc⟩:=ha.out k hkx;have hc2:=hc.keepS (X7.of_below (HK.below.mono hB)) (HK.below.block b (by omega));obtain⟨pa,pc,ia,ic,e0,e1,⟨t0,t1,t2,t3⟩,hp,hi⟩:=hc2;have HP:=Xa hp;have HI:=Xa hi;clear hp hi hc;have HT:Hid (lineS [102,117,110,99] [V]++(xs.take (k+1)).flatMap ZI=(lineS [102,117,110,99] [V]++(xs.take k).flatMap ZI)++ZI xs[k]):=Xa (by rw[X9 _ _ hkx,List.flatMap_append];simp);have HL:Hid ((lineS [102,117,110,99] [V]++(xs.take k).flatMap ZI).length+(ZI xs[k]).length<=1000000000000):=Xa (by have h1:=HLEN.out;have h2:=TN ZI xs k hkx;unfold Jn at h1;simp only at h1;rw[h2]at h1;simp only[List.length_append]at h1 |-;omega);have HPT:Hid (∀p∈xs[k].phis,p.args.length<=1000000000):=Xa (fun p hp=>by have h1:=ZcS (List.getElem_mem hkx);have h2:=Zhm hp;have h3:=hs.out;omega);have HIN:Hid (xs[k].instrs.length<=1048576):=Xa (by have h1:=ZcS (List.getElem_mem hkx);have h3:=hs.out;omega);generalize xs[k]=X at *;generalize lineS [102,117,110,99] [V]++(xs.take k).flatMap ZI=T at *;have HLB:Hid (T.length+(lineS [98,108,111,99,107] []).length<=1000000000000):=Xa (by have:=HL.out;unfold ZI at this;simp only[List.length_append]at this;omega);have HOX:Hid ((wr.alloc (.cells #[.slice pa X.phis.length pc,.slice ia X.instrs.length ic,.int .i64 X.term.kind,.int .i64 X.term.a,.int .i64 X.term.to,.int .i64 X.term.els] 43)).ownsRow w.heap.size 5 1 u3 T.length (Xp T)):=Xa (HO.alloc _);have HKW:Hid (Kp w.heap.size w (wr.alloc (.cells #[.slice pa X.phis.length pc,.slice ia X.instrs.length ic,.int .i64 X.term.kind,.int .i64 X.term.a,.int .i64 X.term.to,.int .i64 X.term.els] 43))):=Xa (HK.alloc (by omega) _);have hq:(wr.alloc (.cells #[.slice pa X.phis.length pc,.slice ia X.instrs.length ic,.int .i64 X.term.kind,.int .i64 X.term.a,.int .i64 X.term.to,.int .i64 X.term.els] 43)).cell? ⟨wr.heap.size,0,none⟩=some (.slice pa X.phis.length pc)/\(wr.alloc (.cells #[.slice pa X.phis.length pc,.slice ia X.instrs.length ic,.int .i64 X.term.kind,.int .i64 X.term.a,.int .i64 X.term.to,.int .i64 X.term.els] 43)).cell? ⟨wr.heap.size,1,none⟩=some (.slice ia X.instrs.length ic)/\(wr.alloc (.cells #[.slice pa X.phis.length pc,.slice ia X.instrs.length ic,.int .i64 X.term.kind,.int .i64 X.term.a,.int .i64 X.term.to,.int .i64 X.term.els] 43)).cell? ⟨wr.heap.size,2,none⟩=some (.int .i64 X.term.kind)/\(wr.alloc (.cells #[.slice pa X.phis.length pc,.slice ia X.instrs.length ic,.int .i64 X.term.kind,.int .i64 X.term.a,.int .i64 X.term.to,.int .i64 X.term.els] 43)).cell? ⟨wr.heap.size,3,none⟩=some (.int .i64 X.term.a)/\(wr.alloc (.cells #[.slice pa X.phis.length pc,.slice ia X.instrs.length ic,.int .i64 X.term.kind,.int .i64 X.term.a,.int .i64 X.term.to,.int .i64 X.term.els] 43)).cell? ⟨wr.heap.size,4,none⟩=some (.int .i64 X.term.to)/\(wr.alloc (.cells #[.slice pa X.phis.length pc,.slice ia X.instrs.length ic,.int .i64 X.term.kind,.int .i64 X.term.a,.int .i64 X.term.to,.int .i64 X.term.els] 43)).cell? ⟨wr.heap.size,5,none⟩=some (.int .i64 X.term.els):=by
    refine⟨?_,?_,?_,?_,?_,?_⟩<;>simp
   have HQ:=Xa hq;have HHX:Hid (∃c fz,(wr.alloc (.cells #[.slice pa X.phis.length pc,.slice ia X.instrs.length ic,.int .i64 X.term.kind,.int .i64 X.term.a,.int .i64 X.term.to,.int .i64 X.term.els] 43)).heap[wr.heap.size]?=some (.cells c 43 fz)):=Xa ⟨_,_,heap_alloc_new wr _⟩;have hsx:wr.heap.size<(wr.alloc (.cells #[.slice pa X.phis.length pc,.slice ia X.instrs.length ic,.int .i64 X.term.kind,.int .i64 X.term.a,.int .i64 X.term.to,.int .i64 X.term.els] 43)).heap.size:=by simp
   have HPX:Hid (ZN (wr.alloc (.cells #[.slice pa X.phis.length pc,.slice ia X.instrs.length ic,.int .i64 X.term.kind,.int .i64 X.term.a,.int .i64 X.term.to,.int .i64 X.term.els] 43)) L B pa X.phis):=Xa (HP.keep ((Xb (Below.refl wr.heap.size wr) _).mono (by omega)));have HIX:Hid (YE (wr.alloc (.cells #[.slice pa X.phis.length pc,.slice ia X.instrs.length ic,.int .i64 X.term.kind,.int .i64 X.term.a,.int .i64 X.term.to,.int .i64 X.term.els] 43)) L B ia X.instrs):=Xa (HI.keep ((Xb (Below.refl wr.heap.size wr) _).mono (by omega)));clear hq
   go_wp2_with fail
   generalize wr.alloc (.cells #[.slice pa X.phis.length pc,.slice ia X.instrs.length ic,.int .i64 X.term.kind,.int .i64 X.term.a,.int .i64 X.term.to,.int .i64 X.term.els] 43)=WX at *;have HSX:=Xa hsx;clear hsx e0 e1 t0 t1 t2 t3 HP HI HO HK;have hwx:=HKW.below.size;refine(Zga w.heap.size u3 T [98,108,111,99,107] WX hwx HOX HLB (Xa (hP.on HKW.below))).mono ?_;rintro e w2 ⟨x2,rfl,hk2,ho2⟩;have HG2:=Xa hk2;have HO2:=Xa ho2;generalize wr=wo at *;have HST:Hid (∀wi,Kp w.heap.size WX wi->wi.heap[wo.heap.size]?=WX.heap[wo.heap.size]?/\w.heap.size<=wi.heap.size/\wo.heap.size<wi.heap.size/\Kp w.heap.size w wi):=Xa (fun wi hg=>by
    have h1:=HSX.out;have h2:=hg.below.size;exact⟨hg.block HHX.out (by decide),by omega,by omega,HKW.trans hg⟩)
   obtain⟨s1,_,_,_⟩:=HST.out _ hk2;have c0:w2.cell? ⟨wo.heap.size,0,none⟩=some (.slice pa X.phis.length pc):=(Xc s1).trans HQ.1;clear hk2 ho2 s1;have HLP:Hid (∀j,∀(h:j<X.phis.length),(T++(lineS [98,108,111,99,107] []++(X.phis.take j).flatMap ZH)).length+(ZH X.phis[j]).length<=1000000000000):=Xa (fun j h=>by
    have h1:=HL.out;have h2:=TN ZH X.phis j h;unfold ZI at h1;rw[h2]at h1;simp only[List.length_append]at h1 |-;omega)
   have hpl:X.phis.length<=1000000000000:=by
    have h1:=HL.out;have h2:=Zb0 ZH (fun x=>WG _ _) X.phis;unfold ZI at h1;simp only[List.length_append]at h1;omega
   have hil:X.instrs.length<=1000000000000:=by
    have h1:=HL.out;have h2:=Zb0 YJ (fun x=>WG _ _) X.instrs;unfold ZI at h1;simp only[List.length_append]at h1;omega
   generalize u3=u3o at *;go_wp2
   go_loopw [3,29] (fun v i wi=>∃j:Nat,j<=X.phis.length/\i=.int .i64 j/\Hid (Kp w.heap.size WX wi)/\Hid (wi.ownsRow w.heap.size 5 1 v (T++(lineS [98,108,111,99,107] []++(X.phis.take j).flatMap ZH)).length (Xp (T++(lineS [98,108,111,99,107] []++(X.phis.take j).flatMap ZH))))) (fun _ i _=>X.phis.length-(intOf i).toNat)
   case atStart=>exact⟨0,Nat.zero_le _,rfl,HG2,Xa (by simpa using HO2.out)⟩
   case round =>
    clear HG2 HO2 c0;obtain⟨j,hj,rfl,HGi,HOi⟩:=hrel;obtain⟨hsa,hsb,hsc,hsd⟩:=HST.out _ HGi.out;have HSD:=Xa hsd;by_cases hlj:j<X.phis.length
    ·clear hsa hsd
     obtain⟨b,o,rfl,⟨hbL,hbB⟩,hpp⟩:=(HPX.keepS (X7.of_below (HGi.below.mono hB))) j hlj;obtain⟨aa,ac,d0,d1,hA⟩:=hpp;have HLj:=Xa (HLP.out j hlj);have HKj:=Xa (HKX.phis X.phis[j] (List.getElem_mem hlj));have HTj:=Xa (WB ZH X.phis j hlj);have HN1:=Xa (HAR.out X.phis[j] (List.getElem_mem hlj));have HN9:=Xa (HPT.out X.phis[j] (List.getElem_mem hlj));obtain⟨pb,po,rfl,⟨_,hpB⟩,_⟩:=hA 0 HN1.out;have HA:=Xa hA;clear hA;generalize X.phis[j]=P at *;have HX:Hid (T++(lineS [98,108,111,99,107] []++(X.phis.take (j+1)).flatMap ZH)=(T++(lineS [98,108,111,99,107] []++(X.phis.take j).flatMap ZH))++ZH P):=Xa (by rw[HTj.out];simp);generalize T++(lineS [98,108,111,99,107] []++(X.phis.take j).flatMap ZH)=TT at *
     go_wp2_with fail
     have HHP:Hid (∃c fz,(wr.alloc (.cells #[.int .i64 P.dst,.slice (some ⟨pb,po,none⟩) P.args.length ac] 46)).heap[wr.heap.size]?=some (.cells c 46 fz)):=Xa ⟨_,_,heap_alloc_new wr _⟩;have p0:(wr.alloc (.cells #[.int .i64 P.dst,.slice (some ⟨pb,po,none⟩) P.args.length ac] 46)).cell? ⟨wr.heap.size,0,none⟩=some (.int .i64 P.dst):=by simp
     have p1:(wr.alloc (.cells #[.int .i64 P.dst,.slice (some ⟨pb,po,none⟩) P.args.length ac] 46)).cell? ⟨wr.heap.size,1,none⟩=some (.slice (some ⟨pb,po,none⟩) P.args.length ac):=by simp
     have hwp:wr.heap.size<(wr.alloc (.cells #[.int .i64 P.dst,.slice (some ⟨pb,po,none⟩) P.args.length ac] 46)).heap.size:=by simp
     have HKP:Hid (Kp w.heap.size WX (wr.alloc (.cells #[.int .i64 P.dst,.slice (some ⟨pb,po,none⟩) P.args.length ac] 46))):=Xa (HGi.alloc (by omega) _);have HOP:Hid ((wr.alloc (.cells #[.int .i64 P.dst,.slice (some ⟨pb,po,none⟩) P.args.length ac] 46)).ownsRow w.heap.size 5 1 u3 TT.length (Xp TT)):=Xa (HOi.alloc _);have HAP:Hid (Xh (wr.alloc (.cells #[.int .i64 P.dst,.slice (some ⟨pb,po,none⟩) P.args.length ac] 46)) L B (some ⟨pb,po,none⟩) P.args):=Xa (HA.keep ((Xb (Below.refl wr.heap.size wr) _).mono (by omega)));have HTP:Hid (TabOk w.heap.size (wr.alloc (.cells #[.int .i64 P.dst,.slice (some ⟨pb,po,none⟩) P.args.length ac] 46))):=Xa (hP.on (HKW.trans HKP.out).below);generalize wr.alloc (.cells #[.int .i64 P.dst,.slice (some ⟨pb,po,none⟩) P.args.length ac] 46)=Wp at *;clear d0 d1;have hws:w.heap.size<=Wp.heap.size:=by omega
     have HKEEP:Hid (∀w',Below Wp.heap.size Wp w'->w'.cell? ⟨wr.heap.size,0,none⟩=some (.int .i64 P.dst)/\w'.cell? ⟨wr.heap.size,1,none⟩=some (.slice (some ⟨pb,po,none⟩) P.args.length ac)):=Xa (fun w' h=>⟨(h.cell (p:=⟨wr.heap.size,0,none⟩) hwp).trans p0,(h.cell (p:=⟨wr.heap.size,1,none⟩) hwp).trans p1⟩);have HCL:Hid (∀W,Below Wp.heap.size Wp W->Calls Tryz.prog 14 #[.slice (some ⟨pb,po,none⟩) P.args.length ac] W (fun e w'=>∃g cc,e=.returned (.slice (some ⟨g,0,none⟩) P.args.length cc)/\Hid (Below Wp.heap.size Wp w')/\Hid (W.heap.size<=g/\g<w'.heap.size)/\Hid (Below W.heap.size W w')/\Hid (w'.ownsRow Wp.heap.size 2 1 (.slice (some ⟨g,0,none⟩) P.args.length cc) P.args.length (P.args.map (Value.int .i64)))/\w'.cell? ⟨wr.heap.size,0,none⟩=some (.int .i64 P.dst)/\w'.cell? ⟨wr.heap.size,1,none⟩=some (.slice (some ⟨pb,po,none⟩) P.args.length ac))):=Xa (fun W hW=>by
      refine(Zd4 Wp W pb po ac P.args L B HAP.out (by omega) HN9.out hW).mono ?_;rintro e w' ⟨g,cc,rfl,hb,hg1,hg2,hown⟩;have hb3:Below Wp.heap.size Wp w':=hW.trans (hb.mono hW.size);exact⟨g,cc,rfl,Xa hb3,Xa ⟨hg1,hg2⟩,Xa hb,Xa (Yn hown hW.size),HKEEP.out _ hb3⟩)
     have HIN:Hid (∀W g cc vb,Below Wp.heap.size Wp W->W.ownsRow Wp.heap.size 2 1 (.slice (some ⟨g,0,none⟩) P.args.length cc) P.args.length (P.args.map (Value.int .i64))->vb≠g->W.heap[vb]?=some (.cells #[.int .i64 P.dst] 2 (0,0))->Calls Tryz.prog 13 #[.slice (some ⟨g,0,none⟩) P.args.length cc,.int .i64 0,.slice (some ⟨vb,0,none⟩) 1 1] W (fun e w'=>∃qa qc,e=.returned (.slice qa (P.args.length+1) qc)/\Hid (Below Wp.heap.size Wp w')/\Hid (∀w'',Kp w.heap.size w' w''->Xh w'' Wp.heap.size w'.heap.size qa (P.dst::P.args))/\w'.cell? ⟨wr.heap.size,0,none⟩=some (.int .i64 P.dst)/\w'.cell? ⟨wr.heap.size,1,none⟩=some (.slice (some ⟨pb,po,none⟩) P.args.length ac))):=Xa (fun W g cc vb hW hown hne hvh=>by
      refine(ZcB w.heap.size Wp W g cc vb P.dst P.args HN1.out HN9.out hW hown hne hvh).mono ?_;rintro e w' ⟨qa,qc,rfl,hb,hst⟩;exact⟨qa,qc,rfl,Xa hb,Xa hst,HKEEP.out _ hb⟩)
     have HINa:Hid (∀w3 g cc,Below Wp.heap.size Wp w3->w3.ownsRow Wp.heap.size 2 1 (.slice (some ⟨g,0,none⟩) P.args.length cc) P.args.length (P.args.map (Value.int .i64))->g<w3.heap.size->Calls Tryz.prog 13 #[.slice (some ⟨g,0,none⟩) P.args.length cc,.int .i64 0,.slice (some ⟨w3.heap.size,0,none⟩) 1 1] (w3.alloc (.cells #[.int .i64 P.dst] 2)) (fun e w'=>∃qa qc,e=.returned (.slice qa (P.args.length+1) qc)/\Hid (Below Wp.heap.size Wp w')/\Hid (∀w'',Kp w.heap.size w' w''->Xh w'' Wp.heap.size w'.heap.size qa (P.dst::P.args))/\w'.cell? ⟨wr.heap.size,0,none⟩=some (.int .i64 P.dst)/\w'.cell? ⟨wr.heap.size,1,none⟩=some (.slice (some ⟨pb,po,none⟩) P.args.length ac))):=Xa (fun w3 g cc hb hown hg =>
      HIN.out (w3.alloc (.cells #[.int .i64 P.dst] 2)) g cc w3.heap.size (hb.alloc hb.size _) (hown.alloc _) (by omega) (heap_alloc_new w3 _))
     have HINb:Hid (∀w3 g cc,Below (Wp.alloc (.cells #[.int .i64 P.dst] 2)).drew.heap.size (Wp.alloc (.cells #[.int .i64 P.dst] 2)).drew w3->Below Wp.heap.size Wp w3->w3.ownsRow Wp.heap.size 2 1 (.slice (some ⟨g,0,none⟩) P.args.length cc) P.args.length (P.args.map (Value.int .i64))->(Wp.alloc (.cells #[.int .i64 P.dst] 2)).drew.heap.size<=g->Calls Tryz.prog 13 #[.slice (some ⟨g,0,none⟩) P.args.length cc,.int .i64 0,.slice (some ⟨Wp.heap.size,0,none⟩) 1 1] w3 (fun e w'=>∃qa qc,e=.returned (.slice qa (P.args.length+1) qc)/\Hid (Below Wp.heap.size Wp w')/\Hid (∀w'',Kp w.heap.size w' w''->Xh w'' Wp.heap.size w'.heap.size qa (P.dst::P.args))/\w'.cell? ⟨wr.heap.size,0,none⟩=some (.int .i64 P.dst)/\w'.cell? ⟨wr.heap.size,1,none⟩=some (.slice (some ⟨pb,po,none⟩) P.args.length ac))):=Xa (fun w3 g cc hb hb2 hown hg=>by
      have hs1:(Wp.alloc (.cells #[.int .i64 P.dst] 2)).drew.heap.size=Wp.heap.size+1:=by show(Wp.alloc (.cells #[.int .i64 P.dst] 2)).heap.size=_;simp
      exact HIN.out w3 g cc Wp.heap.size hb2 hown (by omega) ((hb.block Wp.heap.size (by omega)).trans (heap_alloc_new Wp _)))
     have HAL:Hid (∀W qa qc M,Below Wp.heap.size Wp W->(∀w'',Kp w.heap.size W w''->Xh w'' Wp.heap.size M qa (P.dst::P.args))->Calls Tryz.prog 12 #[u3,.string ⟨#[112,104,105]⟩,.slice qa (P.args.length+1) qc] W (fun e w'=>∃v,e=.returned v/\Hid (Kp w.heap.size WX w')/\Hid (w'.ownsRow w.heap.size 5 1 v (T++(lineS [98,108,111,99,107] []++(X.phis.take (j+1)).flatMap ZH)).length (Xp (T++(lineS [98,108,111,99,107] []++(X.phis.take (j+1)).flatMap ZH))))/\w'.cell? ⟨wr.heap.size,0,none⟩=some (.int .i64 P.dst)/\w'.cell? ⟨wr.heap.size,1,none⟩=some (.slice (some ⟨pb,po,none⟩) P.args.length ac))):=Xa (fun W qa qc M hW hst=>by
      refine(ZfO w.heap.size u3 TT P Wp W qa qc _ M hws hW HOP.out HLj.out HKj.out HTP.out hst).mono ?_;rintro e w' ⟨v,rfl,hk,hown⟩;rw[HX.out];have hbl:=hk.block HHP.out (by decide);exact⟨v,rfl,Xa (HKP.trans hk),Xa hown,(Xc hbl).trans p0,(Xc hbl).trans p1⟩)
     have HB00:Hid (Below Wp.heap.size Wp Wp):=Xa (Below.refl _ _);have HB01:Hid (Below Wp.heap.size Wp Wp.drew):=Xa (Below.refl _ _).drew;have HB02:Hid (Below Wp.heap.size Wp (Wp.alloc (.cells #[.int .i64 P.dst] 2)).drew):=Xa (Xb (Below.refl _ _) _).drew
     go_region_held3 (fun w'=>w'.cell? ⟨wr.heap.size,0,none⟩=some (.int .i64 P.dst)/\w'.cell? ⟨wr.heap.size,1,none⟩=some (.slice (some ⟨pb,po,none⟩) P.args.length ac)) (go_keep)
      (first
       | (go_at_call 14;with_reducible refine(HCL.out Wp HB00.out).mono ?_;rintro e w5 ⟨g5,cc5,rfl,HB5,HG5,HBW5,HO5,f1,f2⟩)
       | (go_at_call 14;with_reducible refine(HCL.out Wp.drew HB01.out).mono ?_;rintro e w5 ⟨g5,cc5,rfl,HB5,HG5,HBW5,HO5,f1,f2⟩)
       | (go_at_call 14;with_reducible refine(HCL.out (Wp.alloc (.cells #[.int .i64 P.dst] 2)).drew HB02.out).mono ?_;rintro e w5 ⟨g5,cc5,rfl,HB5,HG5,HBW5,HO5,f1,f2⟩)
       | (go_at_call 13;with_reducible refine(HINa.out _ _ _ HB5.out HO5.out HG5.out.2).mono ?_;rintro e w6 ⟨qa,qc,rfl,HB6,HS6,f3,f4⟩)
       | (go_at_call 13;with_reducible refine(HINb.out _ _ _ HBW5.out HB5.out HO5.out HG5.out.1).mono ?_;rintro e w6 ⟨qa,qc,rfl,HB6,HS6,f3,f4⟩)
       | (go_at_call 12;with_reducible refine(HAL.out _ _ _ _ HB6.out HS6.out).mono ?_;rintro e w7 ⟨v7,rfl,HK7,HO7,f5,f6⟩))
     all_goals
      go_wp2;exact⟨⟨j+1,by omega,by go_num,HK7,HO7⟩,by simp[intOf];omega⟩
    ·have c1:wr.cell? ⟨wo.heap.size,1,none⟩=some (.slice ia X.instrs.length ic):=(Xc hsa).trans HQ.2.1
     have c2:wr.cell? ⟨wo.heap.size,2,none⟩=some (.int .i64 X.term.kind):=(Xc hsa).trans HQ.2.2.1;have c3:wr.cell? ⟨wo.heap.size,3,none⟩=some (.int .i64 X.term.a):=(Xc hsa).trans HQ.2.2.2.1;have c4:wr.cell? ⟨wo.heap.size,4,none⟩=some (.int .i64 X.term.to):=(Xc hsa).trans HQ.2.2.2.2.1;have c5:wr.cell? ⟨wo.heap.size,5,none⟩=some (.int .i64 X.term.els):=(Xc hsa).trans HQ.2.2.2.2.2;clear hsa hsd;have HO5:Hid (wr.ownsRow w.heap.size 5 1 u3 (T++(lineS [98,108,111,99,107] []++X.phis.flatMap ZH)).length (Xp (T++(lineS [98,108,111,99,107] []++X.phis.flatMap ZH)))):=Xa (by have:=HOi.out;rwa[List.take_of_length_le (by omega)]at this);clear HOi;have HX:Hid (lineS [102,117,110,99] [V]++(xs.take (k+1)).flatMap ZI=(T++(lineS [98,108,111,99,107] []++X.phis.flatMap ZH))++JC X.instrs X.term):=Xa (by rw[HT.out];simp[ZI,JC]);have HLC:Hid ((T++(lineS [98,108,111,99,107] []++X.phis.flatMap ZH)).length+(JC X.instrs X.term).length<=1000000000000):=Xa (by
      have h1:=HL.out;unfold ZI at h1;unfold JC;simp only[List.length_append]at h1 |-;omega)
     generalize T++(lineS [98,108,111,99,107] []++X.phis.flatMap ZH)=TT at *;have HIi:Hid (YE wr L B ia X.instrs):=Xa (HIX.keepS (X7.of_below (HGi.below.mono hB)));have HKI:=Xa HKX.instrs;have HKT:=Xa HKX.term;generalize X.term=Z at *;obtain⟨kind,za,zto,zels⟩:=Z;obtain⟨m,hm⟩:=Int.eq_ofNat_of_zero_le (show 0<=kind by have:=hkd.out;simp only at this;omega);subst hm;simp only at c2 c3 c4 c5
     go_wp2_with (go_at_call 15;refine(Vv w.heap.size u3 TT ia X.instrs.length ic X.instrs m za zto zels L B wr hsb hB HIi (Xa rfl) HIN.out hop (by have:=hkd.out;simp only at this;omega) (by have:=hkd.out;simp only at this;omega) hB1 HO5 HLC HKI HKT (Xa (hP.on HSD.below)) (Xa (hO.keep HSD.below (by omega))) (Xa (hT.keep HSD.below (by omega)))).mono ?_;rintro e w5 ⟨x5,rfl,hg5,ho5⟩)
     have HG5:Hid (Kp w.heap.size w w5):=Xa (HSD.trans hg5);have HO6:Hid (w5.ownsRow w.heap.size 5 1 x5 (lineS [102,117,110,99] [V]++(xs.take (k+1)).flatMap ZI).length (Xp (lineS [102,117,110,99] [V]++(xs.take (k+1)).flatMap ZI))):=Xa (by rw[HX.out];exact ho5);clear hg5 ho5;go_wp2;exact⟨⟨k+1,by omega,by go_num,HG5,HO6⟩,by simp[intOf];omega⟩
  ·have HO5:Hid (wr.ownsRow w.heap.size 5 1 u3 (Jn ⟨V,xs⟩).length (Xp (Jn ⟨V,xs⟩))):=Xa (by have:=HO.out;rwa[List.take_of_length_le (by have:=hx.out;omega)]at this)
   go_wp2
   go_ret
   exact⟨_,rfl,HK.below,HO5.out⟩
end Go.Proofs.YtkehcdfalcakmaaGreatDoor
namespace Go.Proofs.YtkehcdfalcakmaaGreatDoor
open Go.RowKit
theorem oth(w:World)(b:Nat){o o':Nat}(h:o≠o')(v:Value):(w.setCell ⟨b,o,none⟩ v).cell? ⟨b,o',none⟩=w.cell? ⟨b,o',none⟩:=World.cell?_setCell_other _ _ _ _ (by intro e;injection e with _ e2;exact h e2)
structure Mod(L B:Nat)(w w':World):Prop where
 os:w'.os=w.os
 tape:w'.tape=w.tape
 output:w'.output=w.output
 size:w.heap.size<=w'.heap.size
 block:∀k,k<w.heap.size->¬(L<=k/\k<B)->w'.heap[k]?=w.heap[k]?
theorem Mod.of_below{L B:Nat}{w w':World}(h:Below w.heap.size w w'):Mod L B w w':=⟨h.os,h.tape,h.output,h.size,fun k hk _=>h.block k hk⟩
theorem Mod.trans{L B:Nat}{w w1 w2:World}(h:Mod L B w w1)(k:Mod L B w1 w2):Mod L B w w2 :=
 ⟨k.os.trans h.os,k.tape.trans h.tape,k.output.trans h.output,Nat.le_trans h.size k.size,fun i hi hj=>(k.block i (Nat.lt_of_lt_of_le hi h.size) hj).trans (h.block i hi hj)⟩
theorem Mod.same{L B L' B':Nat}{w w':World}(h:Mod L B w w')(hB:B'<=w.heap.size)(hd:B'<=L\/B<=L'):X7 L' B' w w':=fun k h1 h2=>h.block k (by omega) (by omega)
theorem Mod.below{L B:Nat}{w0 w w':World}(h:Mod L B w w')(k:Below w0.heap.size w0 w)(hl:w0.heap.size<=L):Below w0.heap.size w0 w' :=
 ⟨h.os.trans k.os,h.tape.trans k.tape,h.output.trans k.output,Nat.le_trans k.size h.size,fun i hi=>(h.block i (Nat.lt_of_lt_of_le hi k.size) (by omega)).trans (k.block i hi)⟩
end Go.Proofs.YtkehcdfalcakmaaGreatDoor
namespace Go.Proofs.YtkehcdfalcakmaaGreatDoor
set_option maxHeartbeats 1000000
open Go.RowKit
theorem TabOk.next{w W:World}(h:TabOk w.heap.size w)(k:Below w.heap.size w W):TabOk W.heap.size W:=fun w' h'=>h w' (k.trans (h'.mono k.size))
theorem ZfS(V:Int)(a:Option Addr)(n c:Nat)(xs:List Xf)(L B:Nat)(w:World)(ha:Hid (X8 w L B a xs))(hx:Hid (n=xs.length))(hs:Hid (xs.length+Xn xs<=1048576))(hB:B<=w.heap.size)(hO:Hid (Ym w))(hT:Hid (XR w))(hP:Hid (TabOk w.heap.size w)) :
 Calls Tryz.prog 5 #[.agg #[.int .i64 V,.slice a n c]] w fun e w'=>∃v,e=.returned v/\Below w.heap.size w w'/\w'.ownsRow w.heap.size 5 1 v (Uy ⟨V,xs⟩).length (Xp (Uy ⟨V,xs⟩)):=by
 cases hv:Yx ⟨V,xs⟩with
 | true =>
  have HE:Uy ⟨V,xs⟩=Jn ⟨V,xs⟩:=by unfold Uy;rw[hv];rfl
  rw[HE];exact Zfg V a n c xs L B w ha hx hs hB hO hT hP (Xa hv)
 | false =>
  have HV:=Xa ((Zp ⟨V,xs⟩).trans hv);have HE:Hid (Uy ⟨V,xs⟩=[]):=Xa (by unfold Uy;rw[hv];rfl);have hB1:0 < w.heap.size/\1 < w.heap.size:=⟨hO.1,hT.1⟩;clear hv
  go_enter Tryz.func5,Tryz.ntmps5
  go_wp2_with fail
  refine(YU V a n c xs L B _ (Xa (ha.keep ((Xb (Below.refl w.heap.size w) _).mono hB))) hx hs (by simp;omega) (Xa (hO.keep (Xb (Below.refl w.heap.size w) _) (by omega)).old) (Xa (hT.keep (Xb (Below.refl w.heap.size w) _) (by omega)).old)).mono ?_;rintro e w1 ⟨rfl,hb1⟩;rw[HV.out];go_wp2
  go_ret
  have hz:w.heap.size+1<=w1.heap.size:=by have:=hb1.size;simpa using this
  refine⟨_,rfl,Xb (((Xb (Below.refl w.heap.size w) _)).trans (hb1.mono (by simp))) _,?_⟩;rw[HE.out];exact Yn (ZbO _) (by omega)
def FV(w:World)(r:Nat)(v:Int)(a:Option Addr)(n c:Nat):Prop:=w.cell? ⟨r,0,none⟩=some (.int .i64 v)/\w.cell? ⟨r,1,none⟩=some (.slice a n c)
theorem FV.keep{w w1:World}{r:Nat}{v:Int}{a:Option Addr}{n c:Nat}(h:FV w r v a n c)(k:w1.heap[r]?=w.heap[r]?):FV w1 r v a n c:=⟨(Xc k).trans h.1,(Xc k).trans h.2⟩
theorem FV.new(w:World)(v:Int)(a:Option Addr)(n c t:Nat):FV (w.alloc (.cells #[.int .i64 v,.slice a n c] t)) w.heap.size v a n c:=by
 refine⟨?_,?_⟩<;>simp[go_sem]
structure LSE(w:World)(v:Int)(a:Option Addr)(n c:Nat)(a4:Option Addr)(c4:Nat)(a0 a5:Option Addr)(bs:List UInt8)(B3 B4 L0 M0 L5 M5:Nat)(xs:List Xf)(W:World):Prop where
 below:Below w.heap.size w W
 f:FV W w.heap.size v a n c
 x:FV W B4 v a4 n c4
 p:XE W L0 M0 a0 bs
 q:XE W L5 M5 a5 bs
 t:KQ L5 M5 W
 b:X8 W B3 B4 a4 xs
 y:KQ B3 B4 W
 z:B4<W.heap.size
 o:w.heap.size<B3/\B3<=B4
 r0:(L0=0/\M0=0)\/(M0=L0+1/\w.heap.size<L0/\L0<B3)
 r5:(L5=0/\M5=0)\/(M5=L5+1/\B4<L5/\L5<W.heap.size)
section
variable {w : World} {v : Int} {a : Option Addr} {n c : Nat} {a4 : Option Addr} {c4 : Nat} {a0 a5 : Option Addr} {bs : List UInt8} {B3 B4 L0 M0 L5 M5 : Nat} {xs : List Xf} {W W' : World}
theorem LSE.next(h:LSE w v a n c a4 c4 a0 a5 bs B3 B4 L0 M0 L5 M5 xs W)(k:Below W.heap.size W W'):LSE w v a n c a4 c4 a0 a5 bs B3 B4 L0 M0 L5 M5 xs W':=by
 obtain⟨o1,o2⟩:=h.o;have hz:=h.z;have hs:=k.size;have r0:=h.r0;have r5:=h.r5;exact⟨Xi h.below k,h.f.keep (k.block _ (by omega)),h.x.keep (k.block _ (by omega)),h.p.keepS (fun q _ q2=>k.block q (by omega)),h.q.keepS (fun q _ q2=>k.block q (by omega)),h.t.keepS (fun q _ q2=>k.block q (by omega)),h.b.keepS (fun q _ q2=>k.block q (by omega)),h.y.keepS (fun q _ q2=>k.block q (by omega)),by omega,h.o,r0,by omega⟩
end
end Go.Proofs.YtkehcdfalcakmaaGreatDoor
