import Derived.Test.YthgikffcdgpgiaaGreatDoorED2
namespace Go.Proofs.YthgikffcdgpgiaaGreatDoor
set_option maxHeartbeats 4000000
set_option maxRecDepth 100000
open Go.RowKit
theorem ZgD(W:Nat->Nat)(K:Nat):0<cntN W K↔∃x,x<64*K/\Xf W x=true:=by
 unfold cntN;rw[List.countP_pos_iff];constructor
 ·rintro⟨x,h1,h2⟩;exact⟨x,List.mem_range.1 h1,h2⟩
 ·rintro⟨x,h1,h2⟩;exact⟨x,List.mem_range.2 h1,h2⟩
theorem Zf1(x y:Value)(W:World):(Instr.field 115 (.agg #[x,y]) 0).run Tryz.prog W=.ok x W:=kR
theorem Tm(v:Int)(a:Option Addr)(n c:Nat)(xs:List Xi)(L B:Nat)(w:World)(ha:Hid (Xl w L B a xs))(hx:Hid (n=xs.length))(hs:Hid (xs.length+Xk xs<=1048576))(hB:B<=w.heap.size)(hO:Hid (Yf w))(hT:Hid (XT w)) :
 Calls Tryz.prog 25 #[.agg #[.int .i64 v,.slice a n c]] w fun e w'=>e=.returned (.int .i64 (verdP v xs))/\Below w.heap.size w w':=by
 have HVF:=Xa (fun W (hb:Below w.heap.size w W)=>JL v a n c xs L B W (Xa (ha.keep (hb.mono hB))) hx hs (by have:=hb.size;omega) (Xa (hO.keep hb hO.1).old) (Xa (hT.keep hb hT.1).old));cases hv:XQ ⟨v,xs⟩with
 | false =>
  rw[hv]at HVF;rw[Wf hv];clear hv
  go_enter Tryz.func25,Tryz.ntmps25
  go_wp2_with fail
  refine(HVF.out _ (Xb (Below.refl _ _) _)).mono ?_;rintro e w1 ⟨rfl,hb1⟩;have HB1:=Xa (Xe (Xb (Below.refl w.heap.size w) _) hb1);clear hb1 HVF
  go_wp2_with fail
  go_ret
  exact⟨rfl,HB1.out⟩
 | true =>
  rw[hv]at HVF;have HV:=Xa hv;have hv0:0<=v:=by
   simp only[XQ,Yb,Bool.and_eq_true,decide_eq_true_eq]at hv;omega
  obtain⟨V,rfl⟩:=Int.eq_ofNat_of_zero_le hv0;have HOK:Hid (ZZ V xs):=Xa (Yy hv);have hn:n<=1000:=by have:=hx.out;have:=HOK.okf.n2;omega
  have hn0:0<n:=by have:=hx.out;have:=HOK.okf.n1;omega
  have hK2:n<=64*((n+63) / 64):=oM;have hK3:(n+63) / 64<=100:=oM;generalize hvr:verdP (V:Int) xs=vr;have HVR:=Xa hvr;clear hv hv0 hvr
  go_enter Tryz.func25,Tryz.ntmps25
  go_wp2_with fail
  have hW0:Below w.heap.size w (w.alloc (.cells #[.int .i64 (V:Int),.slice a n c] 32)):=Xb (Below.refl _ _) _;have hf0:(w.alloc (.cells #[.int .i64 (V:Int),.slice a n c] 32)).cell? ⟨w.heap.size,0,none⟩=some (.int .i64 (V:Int)):=sP;have hf1:(w.alloc (.cells #[.int .i64 (V:Int),.slice a n c] 32)).cell? ⟨w.heap.size,1,none⟩=some (.slice a n c):=sP;have hz0:w.heap.size<(w.alloc (.cells #[.int .i64 (V:Int),.slice a n c] 32)).heap.size:=sP;refine(HVF.out _ hW0).mono ?_;rintro e w1 ⟨rfl,hb1⟩;have HB1:=Xa (Xe hW0 hb1);have g0:=(hb1.cell (p:=⟨w.heap.size,0,none⟩) hz0).trans hf0;have g1:=(hb1.cell (p:=⟨w.heap.size,1,none⟩) hz0).trans hf1;have hz1:w.heap.size<w1.heap.size:=Nat.lt_of_lt_of_le hz0 hb1.size;clear hb1 hW0 hf0 hf1 hz0 HVF
  go_wp2_with fail
  refine(ZV (V:Int) a n c w1 hn).mono ?_;rintro e w2 ⟨bS,gS,rfl,hbS,hgS,hb2,hsea⟩;have HB2:=Xa (Xe HB1.out hb2);have HSEA:=Xa hsea;have k0:=(hb2.cell (p:=⟨w.heap.size,0,none⟩) hz1).trans g0;have k1:=(hb2.cell (p:=⟨w.heap.size,1,none⟩) hz1).trans g1;have hz2:=hb2.size;have HTN:Hid (∀x∈xs,∀t∈x.term.targets,0<=t/\t<(n:Int)):=Xa (by rw[hx.out];exact HOK.okf.tgt);have HVI:=Xa (TL bS gS w2.heap.size ((n+63) / 64) n c a xs L B hx hn hK2 hK3 oM oM oM HTN n 0 (fun _=>0) (.slice none 0 0) [] w2 HSEA (Xa (ha.keep (HB2.mono hB))) hn0 (Xa (YT _ _)) (Xa ZM) (by simpa using YT (fun _=>0) n));clear hb2 hsea g0 g1
  go_wp2_with fail
  refine HVI.mono ?_;rintro e w3 ⟨rfl,v',hf,hse⟩;have hlow:Below w.heap.size w w3:=⟨hf.os.trans HB2.os,hf.tape.trans HB2.tape,hf.output.trans HB2.output,Nat.le_trans HB2.size hf.size,fun q hq=>(hf.block q oM oM oM (fun e=>by cases e)).trans (HB2.block q hq)⟩;have hbf:=hf.block w.heap.size oM oM oM (fun e=>by cases e);have m0:=(Xc hbf).trans k0;have m1:=(Xc hbf).trans k1;have hse2:Yu w3 bS gS w2.heap.size ((n+63) / 64) a n c (Y7 xs).1 v' (Y7 xs).2:=by
   unfold Y7;rw[<-hx.out];exact hse
  obtain⟨q1,q2,q3,q4⟩:=HOK.okf.top;have HFU:=Xa (ZaU HOK.okf (F:=Zn xs) q3 q1);have hlen:(Zn xs).length=(Y7 xs).2.length:=by unfold Zn;rw[List.length_reverse]
  have hown:=hse2.own;rw[show Yo (Y7 xs).2=(Xh (Y7 xs).2).map (Value.int .i64) by simp[Yo,Xh]]at hown;obtain⟨aL,cL,eL,_⟩:=Xj hown;have s2:w3.cell? ⟨bS,2,none⟩=some (.slice aL (Zn xs).length cL):=by
   have h:=hse2.c2;rw[eL,show(Xh (Y7 xs).2).length=(Zn xs).length by rw[hlen];simp[Xh]]at h;exact h
  have HLOW:=Xa hlow;obtain⟨nl,hnl⟩:∃m,m=(Zn xs).length:=⟨_,rfl⟩;rw[<-hnl]at s2;have HNL:=Xa hnl;have hnl2:nl<=n:=by rw[hnl,hx.out];exact HFU.1
  have HAR:Hid (nl=n↔ZI xs):=Xa (by rw[hnl,hx.out];exact HFU.2);have HFL:=Xa (Tw V a n c xs L B w3.drew (Xa (ha.keep (hlow.drew.mono hB))) hx (by have:=hlow.drew.size;omega) HOK (Xa (hO.keep hlow.drew hO.1)) (Xa (hT.keep hlow.drew hT.1)));have hz3:w.heap.size<w3.heap.size:=World.block_lt_of_cell? w3 _ m0;clear hf hse hse2 hlow hbf hown eL hlen hnl q1 q2 q3 q4 k0 k1 HVI HSEA HFU;by_cases hlt:nl<n
  ·have HR:Hid (vr=10):=Xa (by rw[<-HVR.out];exact ZaQ HV.out (fun h=>by have:=HAR.2 h;omega))
   go_wp2_with fail
   go_region
   go_wp2_with fail
   go_ret
   exact⟨by rw[HR.out];rfl,HLOW.drew⟩
  ·have HAL:Hid (ZI xs):=Xa (HAR.1 oM)
   have hfi:=fun x y W=>Zf1 x y W
   go_wp2_with fail
   go_region
   go_wp2_with fail
   refine HFL.mono ?_;rintro e w4 ⟨Gi,Go,gi,go,ci,WI,WX,rfl,hR⟩;have HR4:=Xa hR;have x0:w4.cell? ⟨Gi,0,none⟩=some (.slice (some ⟨gi 0,0,none⟩) ((V+63) / 64) (ci 0)):=hR.si.row.cell hn0;have hV:=HOK.vle;have HCN:=Xa (VF (gi 0) ((V+63) / 64) (ci 0) (WI 0) w4 (Xa (hR.wi 0)) (Xa (hR.si.set 0 hn0)) oM);have hcn:=ZcL (WI 0) ((V+63) / 64);have HL4:Hid (Below w.heap.size w w4):=Xa (HLOW.drew.trans (hR.low.mono HLOW.drew.size));have HBA:Hid (0<cntN (WI 0) ((V+63) / 64)↔∃x,Bad xs x):=Xa (by
    obtain⟨I,T,W0,ord,h1,h2,h3,h4,h5,_⟩:=hR.inn;have hbi:∀{x:Nat},Sp I T (·∈ord) (Xx xs) 0 x↔Bad xs x:=fun {x}=>Zg8 HOK.out h1 h2 h3 (ord:=(·∈ord)) h4 (src:=Xx xs) (fun _ _=>rfl)
    rw[ZgD];constructor
    ·rintro⟨x,hx1,hx2⟩
     exact⟨x,hbi.1 ((h5 0 hn0 x hx1).1 hx2)⟩
    ·rintro⟨x,hx1⟩
     have hlt:=ZfH HOK.out hx1;have hx2:x<64*((V+63) / 64):=oM;exact⟨x,hx2,(h5 0 hn0 x hx2).2 (hbi.2 hx1)⟩)
   clear hR HFL;generalize hcc:cntN (WI 0) ((V+63) / 64)=cc at *;clear hcc;generalize (V+63) / 64=K4 at *
   go_wp2_with fail
   refine HCN.mono ?_;rintro e w5 ⟨rfl,hb5⟩;have HB5:=Xa (Xe HL4.out hb5);clear hb5 HCN x0;by_cases hc0:0<cc
   ·have HRR:Hid (vr=11):=Xa (by rw[<-HVR.out];exact ZaH HV.out HAL.out (HBA.1 hc0))
    go_wp2_with fail
    go_ret
    exact⟨by rw[HRR.out];rfl,HB5.out⟩
   ·have HRR:Hid (vr=0):=Xa (by rw[<-HVR.out];exact Za1 HV.out HAL.out (fun h=>hc0 (HBA.2 h)))
    go_wp2_with fail
    go_ret
    exact⟨by rw[HRR.out];rfl,HB5.out⟩
theorem CoM.same{V cap gp go bo bp bc bv N:Nat}{C:Nat->Int}{A A':World}(h:CoM V cap gp go bo bp bc bv C A)(hN:gp<N/\go<N/\bo<N/\bp<N/\bc<N/\bv<N)(k:∀q,q<N->q<A.heap.size->A'.heap[q]?=A.heap[q]?):CoM V cap gp go bo bp bc bv C A':=by
 obtain⟨h1,h2,h3,h4,h5,h6⟩:=hN;have kc:∀{b:Nat}{v:Value},b<N->A.cell? ⟨b,0,none⟩=some v->A'.cell? ⟨b,0,none⟩=some v:=fun hb hc=>(World.cell?_of_block (k _ hb (World.block_lt_of_cell? A _ hc))).trans hc
 exact⟨h.row.of_block (k _ h1 h.row.lt),h.out.of_block (k _ h2 h.out.lt),h.box.of_block (k _ h3 h.box.lt),kc h4 h.pick,kc h5 h.cc,kc h6 h.cv,h.rng,h.n1,h.n2,h.n3,h.n4,h.n5⟩
theorem Zcu(V:Nat)(a:Option Addr)(n c:Nat)(xs:List Xi)(L B:Nat)(w:World)(P:List Int)(ha:Hid (Xl w L B a xs))(hx:Hid (n=xs.length))(hs:Hid (xs.length+Xk xs<=1048576))(hB:B<=w.heap.size)(hO:Hid (Yf w))(hT:Hid (XT w))(hTz:Hid (Zs w))(hv:Hid (verdP (V:Int) xs=0))(hP:Hid (Y1 (Xx xs) n P)) :
 Calls Tryz.prog 8 #[.agg #[.int .i64 (V:Int),.slice a n c]] w fun e w'=>∃g,e=.returned (.agg #[.int .i64 0,.slice (some ⟨g,0,none⟩) V V,.int .i64 (ckN (ZF (fun _=>-1) (ZE xs V (Xs P n 0))) V)])/\Below w.heap.size w w'/\w.heap.size<=g/\IaAt w' g V V (ZF (fun _=>-1) (ZE xs V (Xs P n 0))):=by
 obtain⟨hvv,hre⟩:=T8 hv.out;have ho:=Yy hvv;have HST:Hid (Zhi V (ZE xs V (Xs P n 0))):=Xa (by
  have h1:=hP.out;rw[hx.out]at h1;have:=ZhT hvv hre h1;rw[hx.out];exact this)
 have hV:=ho.vle;have HVD:=Xa (fun W (hb:Below w.heap.size w W)=>Tm (V:Int) a n c xs L B W (Xa (ha.keep (hb.mono hB))) hx hs (by have:=hb.size;omega) (Xa (hO.keep hb hO.1)) (Xa (hT.keep hb hT.1)));rw[hv.out]at HVD;have hmk:=run_make_row' (P:=Tryz.prog) 26 2 (.int .i64 0) 8 Tryz.underlying26 Tryz.info2' rfl .i64 .i64 V oM oM;have HHV:=Xa hvv;have HHO:=Xa ho;clear hvv ho hre
 go_enter Tryz.func8,Tryz.ntmps8
 go_wp2_with fail
 have hb0:Below w.heap.size w ((w.alloc (.cells #[.int .i64 (V:Int),.slice a n c] 32)).alloc (.cells #[.int .i64 0,.slice none 0 0,.int .i64 0] 28)):=Xb (Xb (Below.refl _ _) _) _;have hs0:w.heap.size+2<=((w.alloc (.cells #[.int .i64 (V:Int),.slice a n c] 32)).alloc (.cells #[.int .i64 0,.slice none 0 0,.int .i64 0] 28)).heap.size:=sP;have c0:((w.alloc (.cells #[.int .i64 (V:Int),.slice a n c] 32)).alloc (.cells #[.int .i64 0,.slice none 0 0,.int .i64 0] 28)).cell? ⟨w.heap.size,0,none⟩=some (.int .i64 (V:Int)):=by simp[go_sem]
 have c1:((w.alloc (.cells #[.int .i64 (V:Int),.slice a n c] 32)).alloc (.cells #[.int .i64 0,.slice none 0 0,.int .i64 0] 28)).cell? ⟨w.heap.size,1,none⟩=some (.slice a n c):=by simp[go_sem]
 have HR0:Hid (((w.alloc (.cells #[.int .i64 (V:Int),.slice a n c] 32)).alloc (.cells #[.int .i64 0,.slice none 0 0,.int .i64 0] 28)).heap[w.heap.size+1]?=some (.cells #[.int .i64 0,.slice none 0 0,.int .i64 0] 28)):=Xa (by
  have:=World.alloc_heap_new (w.alloc (.cells #[.int .i64 (V:Int),.slice a n c] 32)) (.cells #[.int .i64 0,.slice none 0 0,.int .i64 0] 28);rwa[World.size_alloc]at this)
 generalize (w.alloc (.cells #[.int .i64 (V:Int),.slice a n c] 32)).alloc (.cells #[.int .i64 0,.slice none 0 0,.int .i64 0] 28)=w0 at *;refine(HVD.out _ hb0).mono ?_;rintro e w1 ⟨rfl,hb1⟩;have hs1:=hb1.size;have hl1:w.heap.size<w1.heap.size:=oM;have k0:=(XD hb1 oM).trans c0;have k1:=(XD hb1 oM).trans c1;have HB1:=Xa (Xe hb0 hb1);have HR1:Hid (w1.heap[w.heap.size+1]?=some (.cells #[.int .i64 0,.slice none 0 0,.int .i64 0] 28)):=Xa ((hb1.block _ oM).trans HR0.out);clear hb0 hb1 c0 c1 HVD HR0
 go_wp2_with fail
 have hb2:Below w1.heap.size w1 ((w1.alloc (.cells (madeCells #[.int .i64 0] V) 2)).alloc (.cells #[.int .i64 0,.slice (some ⟨w1.heap.size,0,none⟩) V V,.int .i64 0] 28)):=Xb (Xb (Below.refl _ _) _) _;have hz2:w1.heap.size+2<=((w1.alloc (.cells (madeCells #[.int .i64 0] V) 2)).alloc (.cells #[.int .i64 0,.slice (some ⟨w1.heap.size,0,none⟩) V V,.int .i64 0] 28)).heap.size:=sP;have hz2':((w1.alloc (.cells (madeCells #[.int .i64 0] V) 2)).alloc (.cells #[.int .i64 0,.slice (some ⟨w1.heap.size,0,none⟩) V V,.int .i64 0] 28)).heap.size<=w1.heap.size+2:=sP;have HRZ:Hid (((w1.alloc (.cells (madeCells #[.int .i64 0] V) 2)).alloc (.cells #[.int .i64 0,.slice (some ⟨w1.heap.size,0,none⟩) V V,.int .i64 0] 28)).rowIs w1.heap.size 2 V (fun _=>.int .i64 0)):=Xa ((World.rowIs_made w1 (.int .i64 0) V 2).alloc _);have HRB:Hid (((w1.alloc (.cells (madeCells #[.int .i64 0] V) 2)).alloc (.cells #[.int .i64 0,.slice (some ⟨w1.heap.size,0,none⟩) V V,.int .i64 0] 28)).rowIs (w1.heap.size+1) 28 3 (trG (.int .i64 0) (.slice (some ⟨w1.heap.size,0,none⟩) V V) (.int .i64 0))):=Xa (by
  have h:=World.rowIs_alloc (w1.alloc (.cells (madeCells #[.int .i64 0] V) 2)) #[.int .i64 0,.slice (some ⟨w1.heap.size,0,none⟩) V V,.int .i64 0] 28 (trG (.int .i64 0) (.slice (some ⟨w1.heap.size,0,none⟩) V V) (.int .i64 0)) (fun i hi=>by match i,hi with | 0,_=>rfl | 1,_=>rfl | 2,_=>rfl)
  rw[World.size_alloc]at h;exact h)
 generalize ((w1.alloc (.cells (madeCells #[.int .i64 0] V) 2)).alloc (.cells #[.int .i64 0,.slice (some ⟨w1.heap.size,0,none⟩) V V,.int .i64 0] 28))=w2 at *;have hz1b:=HB1.size;obtain⟨go,hgo⟩:∃go,go=w1.heap.size:=⟨_,rfl⟩;rw[<-hgo]at hb2 hz2 hz2' HRZ HRB;rw[<-hgo];have hgo1:w1.heap.size<=go:=oM;have hgo2:go<=w1.heap.size:=oM;have m0:=(XD hb2 oM).trans k0;have m1:=(XD hb2 oM).trans k1;have HR2:Hid (w2.heap[w.heap.size+1]?=some (.cells #[.int .i64 0,.slice none 0 0,.int .i64 0] 28)):=Xa ((hb2.block _ oM).trans HR1.out);have HB2:=Xa (HB1.trans (hb2.mono oM));clear hmk hb2 k0 k1 hgo HB1 HR1;refine(Zc0 V w2 hV).mono ?_;rintro e w3 ⟨bc,bv,gp,rfl,hb3,hgp,hbc,hbv,hn1,hn2,hia,hcc,hcv⟩;have hs3:=hb3.size;have HB3:=Xa (Xe HB2.out hb3);have p0:=(XD hb3 oM).trans m0;have p1:=(XD hb3 oM).trans m1;have HR3:Hid (w3.heap[w.heap.size+1]?=some (.cells #[.int .i64 0,.slice none 0 0,.int .i64 0] 28)):=Xa ((hb3.block _ oM).trans HR2.out);have l1:=hia.lt;have l2:bc<w3.heap.size:=World.block_lt_of_cell? w3 _ hcc;have l3:bv<w3.heap.size:=World.block_lt_of_cell? w3 _ hcv;have HCO:Hid (CoM V V gp go (go+1) w3.heap.size bc bv (fun _=>-1) (w3.alloc (.cells #[.func (.func 57) #[] #[.pointer (some ⟨bc,0,none⟩),.pointer (some ⟨bv,0,none⟩)]] 69))):=Xa (by
  refine⟨hia.alloc _,?_,?_,by simp[go_sem],(World.cell?_alloc_lt _ _ _ l2).trans hcc,(World.cell?_alloc_lt _ _ _ l3).trans hcv,fun u _=>Or.inl rfl,oM,⟨oM,oM⟩,⟨oM,oM,oM⟩,⟨hn1,oM,oM⟩,⟨hn2,oM,oM⟩⟩
  ·exact IaAt.of_row (((HRZ.of_block (hb3.block _ oM)).alloc _).congr (fun i _=>sP))
  ·exact((HRB.of_block (hb3.block _ oM)).alloc _).congr (fun i hi=>by rw[VS]))
 have hb4:Below w3.heap.size w3 (w3.alloc (.cells #[.func (.func 57) #[] #[.pointer (some ⟨bc,0,none⟩),.pointer (some ⟨bv,0,none⟩)]] 69)):=Xb (Below.refl _ _) _;have HB4:Hid (Below w.heap.size w (w3.alloc (.cells #[.func (.func 57) #[] #[.pointer (some ⟨bc,0,none⟩),.pointer (some ⟨bv,0,none⟩)]] 69))):=Xa (Xe HB3.out hb4);have hz4:w3.heap.size<(w3.alloc (.cells #[.func (.func 57) #[] #[.pointer (some ⟨bc,0,none⟩),.pointer (some ⟨bv,0,none⟩)]] 69)).heap.size:=sP;have HR4:Hid ((w3.alloc (.cells #[.func (.func 57) #[] #[.pointer (some ⟨bc,0,none⟩),.pointer (some ⟨bv,0,none⟩)]] 69)).heap[w.heap.size+1]?=some (.cells #[.int .i64 0,.slice none 0 0,.int .i64 0] 28)):=Xa ((hb4.block _ oM).trans HR3.out);have hl3:w.heap.size<w3.heap.size:=oM;have hsf:=fun (W:World)=>run_store Tryz.prog W ⟨w3.heap.size,0,none⟩ (.func (.func 57) #[] #[.pointer (some ⟨bc,0,none⟩),.pointer (some ⟨bv,0,none⟩)]) .plain rfl
 clear hb3 hia hcc hcv HRZ HRB m0 m1 HR2 HR3 HB2 HB3 hb4
 go_wp2_with fail
 generalize (w3.alloc (.cells #[.func (.func 57) #[] #[.pointer (some ⟨bc,0,none⟩),.pointer (some ⟨bv,0,none⟩)]] 69))=w4 at *;have HEA:=Xa (ZeI V a n c xs L B w4 P w3.heap.size (go+1) (CoS gp go (go+1)) (fun ss U=>CoM V V gp go (go+1) w3.heap.size bc bv (ZF (fun _=>-1) ss) U) (Xa (ha.keep (HB4.mono hB))) hx hs (by have:=HB4.size;omega) (Xa (hO.keep HB4.out hO.1)) (Xa (hT.keep HB4.out hT.1)) (Xa (hTz.of_block (HB4.block _ (World.block_lt_of_cell? w _ (hTz.out 0 vZ))))) HHV HHO hP
  (Xa (fun q h=>by rcases h with h | h | h<;>omega)) (Xa (fun q h1 h2 h=>by rcases h with h | h | h<;>omega)) (Xa (by
   have t1:=hO.1;have t2:=hT.1;have t3:(1 : Nat)<w.heap.size:=World.block_lt_of_cell? w _ (hTz.out 0 vZ);exact⟨fun h=>by rcases h with h | h | h<;>omega,fun h=>by rcases h with h | h | h<;>omega,fun h=>by rcases h with h | h | h<;>omega⟩))
  (Xa (fun ss A A' h k=>h.same ⟨oM,oM,oM,oM,oM,oM⟩ k))
  (Xa (fun pre v l post A z Kw Cz W e hC hz hd hl hk hls htz=>by
   have hvV:=HST.lt (v,l) (by rw[e];simp);have hnv:=ZaA pre (fun _=>-1) (fun t ht=>HST.nd pre (v,l) post e t ht);refine(ZgF v V z Kw Cz V gp go (go+1) w3.heap.size bc bv W _ A (Xa hz) (Xa hd) (Xa htz) hk (Xa hl) hV (Xa hC) hvV (Xa hnv)).mono ?_;rintro e2 A' ⟨q1,q2,q3⟩;refine⟨q1,q2,?_⟩;rw[UN,<-hls];exact q3)) (Xa (by simpa [ZF]using HCO.out)))
 have HAL:Hid (∀u,u<V->0<=ZF (fun _=>-1) (ZE xs V (Xs P n 0)) u):=Xa (fun u hu=>Uu _ _ (Or.inr (HST.all u hu)));obtain⟨C9,hC9⟩:∃C9,C9=ZF (fun _=>-1) (ZE xs V (Xs P n 0)):=⟨_,rfl⟩;simp only[<-hC9]at HEA HAL;have HC9:=Xa hC9;clear hC9;clear HCO hsf;refine HEA.mono ?_;rintro e w5 ⟨rfl,hF5,hC5⟩;have HC5:=Xa hC5;have HF5:=Xa hF5;have b0:=hC5.box.cell (i:=0) vZ;have b1:=hC5.box.cell (i:=1) vZ;have b2:=hC5.box.cell (i:=2) vZ;simp only[trG]at b0 b1 b2;have HRW:Hid (w5.rowIs (w.heap.size+1) 28 3 (trG (.int .i64 0) (.slice none 0 0) (.int .i64 0))):=Xa ⟨_,(hF5.fr _ oM (fun h=>by rcases h with h | h | h<;>omega)).trans HR4.out,rfl,fun i hi=>by match i,hi with | 0,_=>rfl | 1,_=>rfl | 2,_=>rfl⟩
 clear hC5 hF5 HEA p0 p1;have lc0:=HRW.cell (i:=0) vZ;have lc1:=HRW.cell (i:=1) vZ;have lc2:=HRW.cell (i:=2) vZ;have lz:=HRW.frozen;have hsc:∀(W:World)(i j:Nat)(u:Value),i≠j->(W.setCell ⟨w.heap.size+1,i,none⟩ u).cell? ⟨w.heap.size+1,j,none⟩=W.cell? ⟨w.heap.size+1,j,none⟩:=fun W i j u h=>World.cell?_setCell_other _ _ _ _ (fun e=>h (congrArg Addr.off e))
 go_wp2_with fail
 clear lc0 lc1 lc2 lz hsc b0 b1 b2;have HR9:Hid ((((w5.setCell ⟨w.heap.size+1,0,none⟩ (.int .i64 0)).setCell ⟨w.heap.size+1,1,none⟩ (.slice (some ⟨go,0,none⟩) V V)).setCell ⟨w.heap.size+1,2,none⟩ (.int .i64 (ckN C9 V))).rowIs (w.heap.size+1) 28 3 (trG (.int .i64 0) (.slice (some ⟨go,0,none⟩) V V) (.int .i64 (ckN C9 V)))):=Xa ((((HRW.set 0 _).set 1 _).set 2 _).congr (fun i hi=>by match i,hi with | 0,_=>rfl | 1,_=>rfl | 2,_=>rfl))
 have hbr:Below w.heap.size w w5:=⟨HF5.os.trans HB4.os,HF5.tape.trans HB4.tape,HF5.output.trans HB4.output,Nat.le_trans HB4.size HF5.size,fun q' hq'=>(HF5.fr q' (by have:=HB4.size;omega) (fun h=>by rcases h with h | h | h<;>omega)).trans (HB4.block q' hq')⟩;have HB9:Hid (Below w.heap.size w (((w5.setCell ⟨w.heap.size+1,0,none⟩ (.int .i64 0)).setCell ⟨w.heap.size+1,1,none⟩ (.slice (some ⟨go,0,none⟩) V V)).setCell ⟨w.heap.size+1,2,none⟩ (.int .i64 (ckN C9 V)))):=Xa (((hbr.setCell (Nat.le_succ _) _).setCell (Nat.le_succ _) _).setCell (Nat.le_succ _) _);have HI9:Hid (IaAt (((w5.setCell ⟨w.heap.size+1,0,none⟩ (.int .i64 0)).setCell ⟨w.heap.size+1,1,none⟩ (.slice (some ⟨go,0,none⟩) V V)).setCell ⟨w.heap.size+1,2,none⟩ (.int .i64 (ckN C9 V))) go V V C9):=Xa ((((HC5.out.out.setOther (by show go≠w.heap.size+1;omega) _).setOther (by show go≠w.heap.size+1;omega) _).setOther (by show go≠w.heap.size+1;omega) _).congr (fun u hu=>by
  have:=HAL.out u hu;rw[if_neg oM]))
 generalize (((w5.setCell ⟨w.heap.size+1,0,none⟩ (.int .i64 0)).setCell ⟨w.heap.size+1,1,none⟩ (.slice (some ⟨go,0,none⟩) V V)).setCell ⟨w.heap.size+1,2,none⟩ (.int .i64 (ckN C9 V)))=w9 at *;have r0:=HR9.cell (i:=0) vZ;have r1:=HR9.cell (i:=1) vZ;have r2:=HR9.cell (i:=2) vZ;simp only[trG]at r0 r1 r2;refine bodyPost_ret (v:=.agg #[.int .i64 0,.slice (some ⟨go,0,none⟩) V V,.int .i64 (ckN C9 V)]) (by simp[results,Tryz.results8,go_sem,r0,r1,r2]) rfl ?_;rw[<-HC9.out];exact⟨go,rfl,HB9.out,oM,HI9.out⟩
theorem Zeg(v:Int)(a:Option Addr)(n c:Nat)(xs:List Xi)(L B:Nat)(w:World)(ha:Hid (Xl w L B a xs))(hx:Hid (n=xs.length))(hs:Hid (xs.length+Xk xs<=1048576))(hB:B<=w.heap.size)(hO:Hid (Yf w))(hT:Hid (XT w))(hv:verdP v xs≠0) :
 Calls Tryz.prog 8 #[.agg #[.int .i64 v,.slice a n c]] w fun e w'=>e=.returned (.agg #[.int .i64 (verdP v xs),.slice none 0 0,.int .i64 0])/\Below w.heap.size w w':=by
 have HVD:=Xa (fun W (hb:Below w.heap.size w W)=>Tm v a n c xs L B W (Xa (ha.keep (hb.mono hB))) hx hs (by have:=hb.size;omega) (Xa (hO.keep hb hO.1)) (Xa (hT.keep hb hT.1)));have hne:(verdP v xs==0)=false:=by simpa using hv
 generalize verdP v xs=V at *
 go_enter Tryz.func8,Tryz.ntmps8
 go_wp2_with fail
 have hb0:Below w.heap.size w ((w.alloc (.cells #[.int .i64 v,.slice a n c] 32)).alloc (.cells #[.int .i64 0,.slice none 0 0,.int .i64 0] 28)):=Xb (Xb (Below.refl _ _) _) _;have hs0:w.heap.size+2<=((w.alloc (.cells #[.int .i64 v,.slice a n c] 32)).alloc (.cells #[.int .i64 0,.slice none 0 0,.int .i64 0] 28)).heap.size:=sP;have HR0:Hid (((w.alloc (.cells #[.int .i64 v,.slice a n c] 32)).alloc (.cells #[.int .i64 0,.slice none 0 0,.int .i64 0] 28)).heap[w.heap.size+1]?=some (.cells #[.int .i64 0,.slice none 0 0,.int .i64 0] 28)):=Xa (by
  have:=World.alloc_heap_new (w.alloc (.cells #[.int .i64 v,.slice a n c] 32)) (.cells #[.int .i64 0,.slice none 0 0,.int .i64 0] 28);rwa[World.size_alloc]at this)
 generalize (w.alloc (.cells #[.int .i64 v,.slice a n c] 32)).alloc (.cells #[.int .i64 0,.slice none 0 0,.int .i64 0] 28)=w0 at *;refine(HVD.out _ hb0).mono ?_;rintro e w1 ⟨rfl,hb1⟩;have HB1:=Xa (Xe hb0 hb1);have HRW:Hid (w1.rowIs (w.heap.size+1) 28 3 (trG (.int .i64 0) (.slice none 0 0) (.int .i64 0))):=Xa ⟨_,(hb1.block _ oM).trans HR0.out,rfl,fun i hi=>by match i,hi with | 0,_=>rfl | 1,_=>rfl | 2,_=>rfl⟩
 clear hb0 hb1 HVD HR0;have lc0:=HRW.cell (i:=0) vZ;have lc1:=HRW.cell (i:=1) vZ;have lc2:=HRW.cell (i:=2) vZ;have lz:=HRW.frozen;have hsc:∀(W:World)(i j:Nat)(u:Value),i≠j->(W.setCell ⟨w.heap.size+1,i,none⟩ u).cell? ⟨w.heap.size+1,j,none⟩=W.cell? ⟨w.heap.size+1,j,none⟩:=fun W i j u h=>World.cell?_setCell_other _ _ _ _ (fun e=>h (congrArg Addr.off e))
 go_wp2_with fail
 clear lc0 lc1 lc2 lz hsc;have HR9:Hid ((((w1.setCell ⟨w.heap.size+1,0,none⟩ (.int .i64 V)).setCell ⟨w.heap.size+1,1,none⟩ (.slice none 0 0)).setCell ⟨w.heap.size+1,2,none⟩ (.int .i64 0)).rowIs (w.heap.size+1) 28 3 (trG (.int .i64 V) (.slice none 0 0) (.int .i64 0))):=Xa ((((HRW.set 0 _).set 1 _).set 2 _).congr (fun i hi=>by match i,hi with | 0,_=>rfl | 1,_=>rfl | 2,_=>rfl))
 have HB9:Hid (Below w.heap.size w (((w1.setCell ⟨w.heap.size+1,0,none⟩ (.int .i64 V)).setCell ⟨w.heap.size+1,1,none⟩ (.slice none 0 0)).setCell ⟨w.heap.size+1,2,none⟩ (.int .i64 0))):=Xa (((HB1.setCell (Nat.le_succ _) _).setCell (Nat.le_succ _) _).setCell (Nat.le_succ _) _);generalize (((w1.setCell ⟨w.heap.size+1,0,none⟩ (.int .i64 V)).setCell ⟨w.heap.size+1,1,none⟩ (.slice none 0 0)).setCell ⟨w.heap.size+1,2,none⟩ (.int .i64 0))=w9 at *;have r0:=HR9.cell (i:=0) vZ;have r1:=HR9.cell (i:=1) vZ;have r2:=HR9.cell (i:=2) vZ;simp only[trG]at r0 r1 r2;exact bodyPost_ret (v:=.agg #[.int .i64 V,.slice none 0 0,.int .i64 0]) (by simp[results,Tryz.results8,go_sem,r0,r1,r2]) rfl ⟨rfl,HB9.out⟩
end Go.Proofs.YthgikffcdgpgiaaGreatDoor
