import Derived.Test.YthgikffcdgpgiaaGreatDoorML3a
namespace Go.Proofs.YthgikffcdgpgiaaGreatDoor
set_option maxHeartbeats 8000000
set_option maxRecDepth 100000
open Go.RowKit
theorem Zb5(V:Nat)(a:Option Addr)(n c:Nat)(xs:List Xi)(L B:Nat)(w:World)(ha:Hid (Xl w L B a xs))(hx:Hid (n=xs.length))(hB:B<=w.heap.size)(ho:Hid (ZZ V xs)) :
 Calls Tryz.prog 47 #[.agg #[.int .i64 (V:Int),.slice a n c]] w fun e w'=>∃a' c',e=.returned (.slice a' n c')/\Below w.heap.size w w'/\Ju w' w.heap.size a' xs:=by
 obtain⟨i0,hi0,hz0,hz1,hz2⟩:=X7 Tryz.infoFa;obtain⟨j0,hj0,hy0,hy1,hy2⟩:=X7 Tryz.infoSetI';obtain⟨m0,hm0,hm1,hm2,hm3⟩:=X7 Tryz.info2';have hn:n<=1000:=by have:=hx.out;have:=ho.okf.n2;omega
 have HEU:Hid (∀(W:World)(p:Int)(t:Nat),Below w.heap.size w W->t<n->_):=Xa (fun W p t (hW:Below w.heap.size w W) htn=>Wp V a n c p t xs L B W (Xa (ha.keep (hW.mono hB))) hx (by have:=hW.size;omega) ho htn)
 go_enter Tryz.func47,Tryz.ntmps47
 go_wp2_with fail
 go_loopw [3,4] (fun u i wr=>∃(k:Nat)(cs:List Value),k<=n/\i=.int .i64 k/\Hid (LsI w V a n c xs wr u k cs)) (fun _ i _=>n-(intOf i).toNat)
 case atStart =>
  refine⟨0,[],Nat.zero_le _,rfl,Xa ⟨Xb (Xb (Below.refl _ _) _) _,sP,sP,sP,?_,fun i _ h=>absurd h oM⟩⟩;have h:=World.ownsRow_lit (base:=w.heap.size+1) (e:=102) (size:=6) (w.alloc (.cells #[.int .i64 (V:Int),.slice a n c] 32)) #[] 0 sP sP rfl;rw[World.size_alloc]at h;exact h
 case round =>
  obtain⟨k,cs,hk,rfl,HL⟩:=hrel;have hf1:wr.cell? ⟨w.heap.size,1,none⟩=some (.slice a n c):=HL.f1;by_cases hlt:k<n
  ·have hkx:k<xs.length:=by have:=hx.out;omega
   have hlow:Below w.heap.size w wr:=HL.low;have hwz:w.heap.size+2<=wr.heap.size:=HL.sz;obtain⟨b,o,ea,⟨hbL,hbB⟩,hc⟩:=(ha.keep (hlow.mono hB)) k hkx;subst ea;obtain⟨pa,pc,ia,ic,e0,e1,⟨e2,e3,e4,e5⟩,hph,hin⟩:=hc;have HPHS:=Xa hph;have HINS:=Xa hin;have HLN:=Xa (ho.lens xs[k] (List.getElem_mem hkx));have HTL:Hid (∀t∈xs[k].term.targets,0<=t/\t<(n:Int)):=Xa (by rw[hx.out];exact ho.okf.tgt xs[k] (List.getElem_mem hkx));obtain⟨X,hX⟩:∃X,X=xs[k]:=⟨_,rfl⟩;rw[<-hX]at e0 e1 e2 e3 e4 e5 HPHS HINS HLN HTL;have HX:=Xa hX;clear hX hph hin;refine Zis (fun _ _ _ _ _ h=>h) ?_;intro Q hN hQ
   go_wp2_with fail
   rename_i Kc HKc;have hbw:b<wr.heap.size:=World.block_lt_of_cell? wr _ e0;have KEY:Hid (∀(bx:Nat)(f0:Nat->Value)(t17 t18 t19 t20 t21 t22 t23 t24 t25 t26 t27 t28 t29 t30 t31 t32 t33 t34 t35 t36 t37:Value)(Y:World),FcA wr Y bx X f0->Kc ⟨#[.agg #[.int .i64 (V:Int),.slice (some ⟨b,o,none⟩) n c],.pointer (some ⟨w.heap.size,0,none⟩),.slice none 0 0,u3,.int .i64 (k:Int),.pointer (some ⟨bx,0,none⟩),u6,u7,u8,.slice (some ⟨w.heap.size+1,0,none⟩) 0 0,.int .i64 (k:Int),.pointer (some ⟨w.heap.size,1,none⟩),.slice (some ⟨b,o,none⟩) n c,.int .i64 (n:Int),.bool true,u15,u16,t17,t18,t19,t20,t21,t22,t23,t24,t25,t26,t27,t28,t29,t30,t31,t32,t33,t34,t35,t36,t37,u38,u39,u40,u41,u42,u43,u44,u45,u46,u47,u48,u49,u50,u51,u52,u53,u54,u55,u56,u57,u58,u59,u60,u61,u62,u63,u64,u65,u66,u67,u68,u69,u70,u71,u72,u73,u74,u75,u76,u77,u78,u79,u80,u81,u82,u83,u84,u85,u86,u87,u88,u89,u90,u91,u92,u93,u94,u95,u96,u97,u98,u99,u100,u101,u102,u103,undef],[]⟩ Y):=Xa (by
    intro bx f0 t17 t18 t19 t20 t21 t22 t23 t24 t25 t26 t27 t28 t29 t30 t31 t32 t33 t34 t35 t36 t37 Y hA;apply HKc;have HA:=Xa hA;obtain⟨aT,cT,eT,hiT⟩:=hA.e0;have HIT:=Xa hiT;have HET:=Xa eT;have hbx:wr.heap.size<=bx:=hA.b1;have hbl:bx<Y.heap.size:=hA.box.lt;have hzY:=hA.low.size;have HYW:Hid (Below w.heap.size w Y):=Xa (hlow.trans (hA.low.mono oM));have yf0:Y.cell? ⟨w.heap.size,0,none⟩=some (.int .i64 (V:Int)):=(XD hA.low oM).trans HL.f0;have yf1:Y.cell? ⟨w.heap.size,1,none⟩=some (.slice (some ⟨b,o,none⟩) n c):=(XD hA.low oM).trans hf1;have HYF:=Xa (show _/\_ from⟨yf0,yf1⟩);obtain⟨nT,hnT⟩:∃m,m=X.term.targets.length:=⟨_,rfl⟩;have hnT2:nT<=2:=by rw[hnT];exact Jr _
    have HNT:=Xa hnT;have HE1:Hid (Y.cell? ⟨b,o+k*6+1,none⟩=some (.slice ia X.instrs.length ic)):=Xa ((hA.low.cell (p:=⟨b,o+k*6+1,none⟩) hbw).trans e1);have HINY:Hid (XL Y L B ia X.instrs):=Xa (HINS.keepS (fun q _ h2=>hA.low.block q oM));have HEL:Hid (∀j,j<=2->((X.term.targets.take j).flatMap (edgeU xs (k:Int))).length<=8000000):=Xa (fun j hj=>by
     have h1:=Tc ho.out (k:Int) (X.term.targets.take j);rw[List.length_take]at h1;have h2:min j X.term.targets.length<=2:=oM;omega)
    have hbw1:w.heap.size<bx:=oM;clear hA hiT eT hnT HKc e0 e1 e2 e3 e4 e5 hf1 yf0 yf1 HPHS;generalize wr=wo at *
    go_wp2_with fail
    go_loopw [6] (fun i wr=>∃(j:Nat)(u:Value),j<=nT/\i=.int .i64 j/\Hid (EdL Y bx f0 wr u ((X.term.targets.take j).flatMap (edgeU xs (k:Int))))) (fun i _=>nT-(intOf i).toNat)
    case atStart=>exact⟨0,.slice none 0 0,Nat.zero_le _,rfl,Xa (EdL.start HA.box HA.n2)⟩
    case round =>
     obtain⟨j,u,hj,rfl,HE⟩:=hrel;have hzE:=HE.size;have c0:wr.cell? ⟨bx,0,none⟩=some (.slice aT nT cT):=by
      have h:=HE.box.cell (i:=0) vZ;rw[if_neg vZ,HET.out,<-HNT.out]at h;exact h
     by_cases hltj:j<nT
     ·have hjx:j<X.term.targets.length:=by rw[<-HNT.out];exact hltj
      obtain⟨bt,ot,rfl,⟨⟨_,hbtx⟩,hbtl⟩,hct⟩:=HIT.out j hjx;have htv:=HTL.out _ (List.getElem_mem hjx);have c2:wr.cell? ⟨bx,2,none⟩=some u:=by
       have h:=HE.box.cell (i:=2) vZ;rw[if_pos rfl]at h;exact h
      have cz:wr.frozen? ⟨bx,2,none⟩=false:=HE.box.frozen 2;have cf0:=HE.cell oM HYF.1;have cf1:=HE.cell oM HYF.2;have ct:=HE.cell hbtx hct;have HFT:Hid ((X.term.targets.take (j+1)).flatMap (edgeU xs (k:Int))=(X.term.targets.take j).flatMap (edgeU xs (k:Int))++edgeU xs (k:Int) X.term.targets[j]):=Xa (Zee hjx);obtain⟨tn,htn⟩:=Int.eq_ofNat_of_zero_le htv.1;rw[htn]at HFT ct;have htn2:tn<n:=oM;have HEC:=Xa (HEU.out wr.drew (k:Int) tn ⟨HE.os.trans HYW.os,HE.tape.trans HYW.tape,HE.output.trans HYW.output,Nat.le_trans HYW.size HE.size,fun q hq=>(HE.fr q (by have:=HYW.size;omega) oM).trans (HYW.block q hq)⟩ htn2);have HLE:=Xa (HEL.out j oM);have HLU:=Xa (VI ho.out (k:Int) (tn:Int));have hbr:bx<wr.heap.size:=oM;have hwr:w.heap.size<wr.heap.size:=oM;generalize edgeU xs (k:Int) (tn:Int)=eu at *;generalize (X.term.targets.take j).flatMap (edgeU xs (k:Int))=el at *;clear hct htv htn
      go_wp2_with fail
      refine ZB (fun w'=>w'.cell? ⟨w.heap.size,0,none⟩=some (.int .i64 (V:Int))/\w'.cell? ⟨w.heap.size,1,none⟩=some (.slice (some ⟨b,o,none⟩) n c)/\w'.cell? ⟨bx,0,none⟩=some (.slice (some ⟨bt,ot,none⟩) nT cT)/\w'.cell? ⟨bt,ot+j,none⟩=some (.int .i64 (tn:Int))) (fun hHeld=>?_);refine Yg 0 ?_;refine Yg 2 ?_;refine Yg 3 ?_;refine Yg 4 ?_;refine Yg 5 ?_;refine Yg 6 ?_;refine Yg 7 ?_;refine Yg 8 ?_;refine wpAnyH_ready (rs:=[1,9]) kR sP ?_;refine(AllReadyH.cons rfl (fun K hK=>?_) (AllReadyH.cons rfl (fun K hK=>?_) AllReadyH.nil));go_simp;refine hK _ _ kP (fun hHeld=>?_);clear hK
      try simp only[Act.put,xA,xB,xC,xD,xE,xF]
      refine Xz 9 (fun K hK=>?_);go_simp;refine HEC.mono ?_;rintro e w5 ⟨ad,c5,rfl,hb5',hi5⟩;have hb5:Below wr.heap.size wr w5:=⟨hb5'.os,hb5'.tape,hb5'.output,hb5'.size,hb5'.block⟩;have HB5:=Xa hb5;have HI5:=Xa hi5;have d0:=(hb5.cell (p:=⟨bx,0,none⟩) hbr).trans c0;have d2:=(hb5.cell (p:=⟨bx,2,none⟩) hbr).trans c2;have df0:=(hb5.cell (p:=⟨w.heap.size,0,none⟩) hwr).trans cf0;have df1:=(hb5.cell (p:=⟨w.heap.size,1,none⟩) hwr).trans cf1;have dt:=(hb5.cell (p:=⟨bt,ot+j,none⟩) (World.block_lt_of_cell? wr _ ct)).trans ct;clear hb5' hi5 hb5;refine hK _ _ ⟨df0,df1,d0,dt⟩ (fun hHeld=>?_);clear hK;rotate_left;go_simp;refine HEC.mono ?_;rintro e w5 ⟨ad,c5,rfl,hb5',hi5⟩;have hb5:Below wr.heap.size wr w5:=⟨hb5'.os,hb5'.tape,hb5'.output,hb5'.size,hb5'.block⟩;have HB5:=Xa hb5;have HI5:=Xa hi5;have d0:=(hb5.cell (p:=⟨bx,0,none⟩) hbr).trans c0;have d2:=(hb5.cell (p:=⟨bx,2,none⟩) hbr).trans c2;have df0:=(hb5.cell (p:=⟨w.heap.size,0,none⟩) hwr).trans cf0;have df1:=(hb5.cell (p:=⟨w.heap.size,1,none⟩) hwr).trans cf1;have dt:=(hb5.cell (p:=⟨bt,ot+j,none⟩) (World.block_lt_of_cell? wr _ ct)).trans ct;clear hb5' hi5 hb5;refine hK _ _ ⟨df0,df1,d0,dt⟩ (fun hHeld=>?_);clear hK
      try simp only[Act.put,xA,xB,xC,xD,xE,xF]
      refine Xz 1 (fun K hK=>?_);go_simp;refine hK _ _ kP (fun hHeld=>?_);clear hK
      all_goals (
       refine Xz 10 (fun K hK=>?_);refine XC rfl _ _ 26 rfl Y.heap.size 2 m0 (.int .i64 0) 1 8 Tryz.underlying26 hm0 hm1 hm2 hm3 rfl vZ u el.length (el.map (Value.int .i64)) rfl ?s1 ad eu.length c5 (eu.map (Value.int .i64)) rfl sP ?s2 ?s3 ?s4 ?s5 ?s6 ?_
       case s1=>exact Yr HE.own (fun g e=>HB5.block g (HE.own.lt g e).2)
       case s2=>exact ZgK HI5.out
       case s3=>intro v hv;obtain⟨z,_,rfl⟩:=List.mem_map.1 hv;rfl
       case s4=>have:=HLE.out;have:=HLU.out;unfold maxLen;omega
       case s5=>have:=HLE.out;have:=HLU.out;omega
       case s6=>have:=HB5.size;omega
       intro u1 w6 hown1 hgrow1 _ _;obtain⟨av,cv,eu1,_⟩:=Xj (xs:=el++eu) (by rw[List.map_append];exact hown1);obtain⟨ln,hln⟩:∃m,m=(el++eu).length:=⟨_,rfl⟩;rw[<-hln]at eu1;subst eu1;clear hln;have HG6:=Xa hgrow1;have HO6:Hid (w6.ownsRow Y.heap.size 2 1 (.slice av ln cv) (el++eu).length ((el++eu).map (Value.int .i64))):=Xa (by rw[List.length_append,List.map_append];exact hown1);have hnb:∀q,q<Y.heap.size->w6.heap[q]?=w5.heap[q]?:=fun q hq=>hgrow1.block q (by have:=HB5.size;omega) (fun e=>by have:=(HE.own.lt q e.symm).1;omega)
       have g0:=(Xc (hnb bx hbl)).trans d0;have g2:=(Xc (hnb bx hbl)).trans d2;have gz:w6.frozen? ⟨bx,2,none⟩=false:=by rw[World.frozen?_of_block (a:=⟨bx,2,none⟩) (hnb bx hbl)];exact(HB5.frozen (p:=⟨bx,2,none⟩) hbr).trans cz
       have gf0:=(Xc (hnb w.heap.size oM)).trans df0;have gf1:=(Xc (hnb w.heap.size oM)).trans df1;have gt:=(Xc (hnb bt hbtl)).trans dt;have HP6:=Xa (HE.push (u':=.slice av ln cv) (qs:=eu) hbl HB5.out HG6.out HO6.out);clear hown1 hgrow1 hnb d0 d2 df0 df1 dt hHeld;refine hK _ _ ⟨gf0,gf1,g0,gt⟩ (fun hHeld=>?_);clear hK;refine Yg 11 ?_;refine Xz 12 (fun K hK=>?_);go_simp;have hs:∀(b' o':Nat)(v:Value),(b'≠bx\/o'≠2)->w6.cell? ⟨b',o',none⟩=some v->(w6.setCell ⟨bx,2,none⟩ (.slice av ln cv)).cell? ⟨b',o',none⟩=some v:=fun b' o' v h1 h2=>(World.cell?_setCell_other _ _ _ _ (by
        intro e;injection e with e1 e2;rcases h1 with h1 | h1
        ·exact h1 e1.symm
        ·exact h1 e2.symm)).trans h2
       refine hK _ _ ⟨hs _ _ _ (Or.inl oM) gf0,hs _ _ _ (Or.inl oM) gf1,hs _ _ _ (Or.inr vZ) g0,hs _ _ _ (Or.inl hbtx) gt⟩ (fun hHeld=>?_);clear hK hHeld hs gf0 gf1 g0 g2 gz gt
       try simp only[Act.put,xA,xB,xC,xD,xE,xF]
       refine Zu ?_
       go_wp2_with fail
       exact⟨⟨j+1,.slice av ln cv,oM,gM,Xa (by rw[HFT.out];exact HP6.out)⟩,by simp[intOf];omega⟩)
     ·have HJE:Hid (j=X.term.targets.length):=Xa (by have:=HNT.out;omega)
      have HEF:Hid ((X.term.targets.take j).flatMap (edgeU xs (k:Int))=XB xs k):=Xa (by
       rw[List.take_of_length_le (by have:=HJE.out;omega)];unfold XB;rw[List.getElem?_eq_getElem hkx,HX.out])
      have HE2:Hid (EdL Y bx f0 wr u (XB xs k)):=Xa (by rw[<-HEF.out];exact HE.out);have HZE:Hid (Y.heap.size<=wr.heap.size):=Xa hzE;have HF1E:Hid (wr.cell? ⟨w.heap.size,1,none⟩=some (.slice (some ⟨b,o,none⟩) n c)):=Xa (HE.cell oM HYF.2);have HB1E:Hid (wr.cell? ⟨b,o+k*6+1,none⟩=some (.slice ia X.instrs.length ic)):=Xa (HE.cell oM HE1.out);have HINE:Hid (XL wr L B ia X.instrs):=Xa (HINY.keepS (fun q _ h2=>HE.fr q oM oM));have hbe:bx<wr.heap.size:=oM;clear HE HEF
      go_wp2_with fail
      clear c0;generalize wr=w2 at *;obtain⟨nI,hnI⟩:∃m,m=X.instrs.length:=⟨_,rfl⟩;rw[<-hnI]at HB1E;have hnI2:nI<=4000:=by rw[hnI];exact HLN.1
      have HNI:=Xa hnI;clear hnI
      go_loopw [7] (fun i wr=>∃(q:Nat)(ur ud:Value)(rs:List Value),q<=nI/\i=.int .i64 q/\Hid (InL w2 bx (fun i=>if i=2 then u else f0 i) wr ur ud rs ((Zz X).take q) ((YN X).take q))) (fun i _=>nI-(intOf i).toNat)
      case atStart=>exact⟨0,.slice none 0 0,.slice none 0 0,[],Nat.zero_le _,rfl,Xa (InL.start HE2.box (by rw[if_neg vZ];exact HA.n3) (by rw[if_neg vZ];exact HA.n4))⟩
      case round =>
       obtain⟨q,ur,ud,rs,hq,rfl,HI⟩:=hrel;have hzI:=HI.size;have cf1:=(Xc (HI.fr w.heap.size oM oM)).trans HF1E.out;have ce1:=(Xc (HI.fr b oM oM)).trans HB1E.out;by_cases hltq:q<nI
       ·have hqx:q<X.instrs.length:=by rw[<-HNI.out];exact hltq
        obtain⟨bi,oi,rfl,⟨hbiL,hbiB⟩,hins⟩:=HINE.out q hqx;have hfri:=HI.fr bi oM oM;obtain⟨i0',i1',i2',i3',i4'⟩:=hins;have r0:=(Xc hfri).trans i0';have r1:=(Xc hfri).trans i1';have r2:=(Xc hfri).trans i2';have r3:=(Xc hfri).trans i3';have r4:=(Xc hfri).trans i4';have HTR:Hid ((Zz X).take (q+1)=(Zz X).take q++[rdI X.instrs[q]]):=Xa (by unfold Zz;rw[Xr _ _ (by simpa using hqx)];simp);have HTD:Hid ((YN X).take (q+1)=(YN X).take q++[defI X.instrs[q]]):=Xa (by unfold YN;rw[Xr _ _ (by simpa using hqx)];simp);have HLR1:Hid (((Zz X).take q).length=q):=Xa (by rw[List.length_take];unfold Zz;rw[List.length_map];omega);have HLD1:Hid (((YN X).take q).length=q):=Xa (by rw[List.length_take];unfold YN;rw[List.length_map];omega);obtain⟨y,hy⟩:∃y,y=X.instrs[q]:=⟨_,rfl⟩;rw[<-hy]at r0 r1 r2 r3 r4 HTR HTD;obtain⟨op,dst,ya,yb,imm⟩:=y;simp only at r0 r1 r2 r3 r4;clear i0' i1' i2' i3' i4' hfri hy;generalize (Zz X).take q=zr at *;generalize (YN X).take q=zd at *
        go_wp2_with fail
        have hbA:Below wr.heap.size wr (wr.alloc (.cells #[.int .i64 op,.int .i64 dst,.int .i64 ya,.int .i64 yb,.int .i64 imm] 67)):=Xb (Below.refl _ _) _;have hri:wr.heap.size<(wr.alloc (.cells #[.int .i64 op,.int .i64 dst,.int .i64 ya,.int .i64 yb,.int .i64 imm] 67)).heap.size:=sP;have hnc:∀q' v,#[Value.int .i64 op,.int .i64 dst,.int .i64 ya,.int .i64 yb,.int .i64 imm][q']?=some v->(wr.alloc (.cells #[.int .i64 op,.int .i64 dst,.int .i64 ya,.int .i64 yb,.int .i64 imm] 67)).cell? ⟨wr.heap.size,q',none⟩=some v:=fun q' v h=>by
         rw[World.cell?_alloc_new];exact h
        generalize wr.alloc (.cells #[.int .i64 op,.int .i64 dst,.int .i64 ya,.int .i64 yb,.int .i64 imm] 67)=wi at *;have n0:wi.cell? ⟨wr.heap.size,0,none⟩=some (.int .i64 op):=hnc 0 _ rfl;have n1:wi.cell? ⟨wr.heap.size,1,none⟩=some (.int .i64 dst):=hnc 1 _ rfl;have n2:wi.cell? ⟨wr.heap.size,2,none⟩=some (.int .i64 ya):=hnc 2 _ rfl;have n3:wi.cell? ⟨wr.heap.size,3,none⟩=some (.int .i64 yb):=hnc 3 _ rfl;have n4:wi.cell? ⟨wr.heap.size,4,none⟩=some (.int .i64 imm):=hnc 4 _ rfl;have HIi:=Xa (HI.below hbA);have hzi:=hbA.size;have hbi:bx<wi.heap.size:=oM;have s3:wi.cell? ⟨bx,3,none⟩=some ur:=by
         have h:=HIi.box.cell (i:=3) vZ;rw[if_pos rfl]at h;exact h
        have sz3:wi.frozen? ⟨bx,3,none⟩=false:=HIi.box.frozen 3;have HUR:Hid (∀g,ur.ownBlock=some g->g<wi.heap.size):=Xa (fun g e=>(HIi.ownR.lt g e).2);have HUR0:Hid (∀g,ur.ownBlock=some g->g<wr.heap.size):=Xa (fun g e=>(HI.ownR.lt g e).2);have HUD:Hid (∀g,ud.ownBlock=some g->g<wi.heap.size):=Xa (fun g e=>(HIi.ownD.lt g e).2);clear hnc hbA r0 r1 r2 r3 r4 cf1 ce1;refine ZB (fun w'=>w'.cell? ⟨wr.heap.size,0,none⟩=some (.int .i64 op)/\w'.cell? ⟨wr.heap.size,1,none⟩=some (.int .i64 dst)/\w'.cell? ⟨wr.heap.size,2,none⟩=some (.int .i64 ya)/\w'.cell? ⟨wr.heap.size,3,none⟩=some (.int .i64 yb)/\w'.cell? ⟨wr.heap.size,4,none⟩=some (.int .i64 imm)) (fun hHeld=>?_);refine Yg 0 ?_;refine Yg 2 ?_;refine wpAnyH_ready (rs:=[1,3]) kR sP ?_;refine(AllReadyH.cons rfl (fun K hK=>?_) (AllReadyH.cons rfl (fun K hK=>?_) AllReadyH.nil))
        focus
         go_simp;refine hK _ _ kP (fun hHeld=>?_);clear hK
         try simp only[Act.put,xA,xB,xC,xD,xE,xF]
         refine Xz 3 (fun K hK=>?_);go_simp;refine(TV ⟨op,dst,ya,yb,imm⟩ wi.drew).mono ?_;rintro e w5 ⟨a5,c5,rfl,hb5',hi5⟩;have hb5:Below wi.heap.size wi w5:=⟨hb5'.os,hb5'.tape,hb5'.output,hb5'.size,hb5'.block⟩;have HB5:=Xa hb5;have HI5:Hid (Xg w5 wi.heap.size w5.heap.size a5 (rdI ⟨op,dst,ya,yb,imm⟩)):=Xa hi5;have d3:=(hb5.cell (p:=⟨bx,3,none⟩) hbi).trans s3;have p0:=(hb5.cell (p:=⟨wr.heap.size,0,none⟩) hri).trans n0;have p1:=(hb5.cell (p:=⟨wr.heap.size,1,none⟩) hri).trans n1;have p2:=(hb5.cell (p:=⟨wr.heap.size,2,none⟩) hri).trans n2;have p3:=(hb5.cell (p:=⟨wr.heap.size,3,none⟩) hri).trans n3;have p4:=(hb5.cell (p:=⟨wr.heap.size,4,none⟩) hri).trans n4;obtain⟨lr,hlr⟩:∃m,m=(rdI ⟨op,dst,ya,yb,imm⟩).length:=⟨_,rfl⟩;rw[<-hlr];have HLR:=Xa hlr;clear hb5' hi5 hb5 hlr;refine hK _ _ ⟨p0,p1,p2,p3,p4⟩ (fun hHeld=>?_);clear hK;refine Yg 4 ?_;refine Xz 5 (fun K hK=>?_);go_simp;refine hK _ _ kP (fun hHeld=>?_);clear hK
        rotate_left
        focus
         go_simp;refine(TV ⟨op,dst,ya,yb,imm⟩ wi.drew).mono ?_;rintro e w5 ⟨a5,c5,rfl,hb5',hi5⟩;have hb5:Below wi.heap.size wi w5:=⟨hb5'.os,hb5'.tape,hb5'.output,hb5'.size,hb5'.block⟩;have HB5:=Xa hb5;have HI5:Hid (Xg w5 wi.heap.size w5.heap.size a5 (rdI ⟨op,dst,ya,yb,imm⟩)):=Xa hi5;have d3:=(hb5.cell (p:=⟨bx,3,none⟩) hbi).trans s3;have p0:=(hb5.cell (p:=⟨wr.heap.size,0,none⟩) hri).trans n0;have p1:=(hb5.cell (p:=⟨wr.heap.size,1,none⟩) hri).trans n1;have p2:=(hb5.cell (p:=⟨wr.heap.size,2,none⟩) hri).trans n2;have p3:=(hb5.cell (p:=⟨wr.heap.size,3,none⟩) hri).trans n3;have p4:=(hb5.cell (p:=⟨wr.heap.size,4,none⟩) hri).trans n4;obtain⟨lr,hlr⟩:∃m,m=(rdI ⟨op,dst,ya,yb,imm⟩).length:=⟨_,rfl⟩;rw[<-hlr];have HLR:=Xa hlr;clear hb5' hi5 hb5 hlr;refine hK _ _ ⟨p0,p1,p2,p3,p4⟩ (fun hHeld=>?_);clear hK
         try simp only[Act.put,xA,xB,xC,xD,xE,xF]
         refine Yg 4 ?_;refine wpAnyH_ready (rs:=[1,5]) kR sP ?_;refine(AllReadyH.cons rfl (fun K hK=>?_) (AllReadyH.cons rfl (fun K hK=>?_) AllReadyH.nil))
         focus
          go_simp;refine hK _ _ kP (fun hHeld=>?_);clear hK
          try simp only[Act.put,xA,xB,xC,xD,xE,xF]
          refine Xz 5 (fun K hK=>?_);go_simp;refine hK _ _ kP (fun hHeld=>?_);clear hK
         rotate_left;go_simp;refine hK _ _ kP (fun hHeld=>?_);clear hK
         try simp only[Act.put,xA,xB,xC,xD,xE,xF]
         have d3':(w5.alloc (.cells #[.slice a5 lr c5] 62)).cell? ⟨bx,3,none⟩=some ur:=((Xb (Below.refl w5.heap.size w5) _).cell (p:=⟨bx,3,none⟩) (by have:=HB5.size;show bx<_;omega)).trans d3;refine Xz 1 (fun K hK=>?_);go_simp;refine hK _ _ kP (fun hHeld=>?_);clear hK
        all_goals (
         refine Xz 6 (fun K hK=>?_);refine XC rfl _ _ 45 rfl w2.heap.size 62 j0 (.agg #[.slice none 0 0]) 1 24 Tryz.underlying45 hj0 hy0 hy1 hy2 rfl vZ ur rs.length rs rfl ?s1 ⟨w5.heap.size,0,none⟩ 1 1 [.slice a5 lr c5] rfl rfl ?s2 ?s3 ?s4 ?s5 ?s6 ?_
         case s1=>exact(Yr HIi.ownR (fun g e=>HB5.block g (HUR.out g e))).alloc _
         case s2=>exact cell_one_new _ _ _
         case s3=>intro v hv;simp at hv;subst hv;rfl
         case s4=>have h1:=HIi.len;have h2:=HLR1.out;unfold maxLen;omega
         case s5=>have h1:=HIi.len;have h2:=HLR1.out;omega
         case s6=>have:=HB5.size;simp;omega
         intro u6 w6 hown6 hg6 _ hat6;obtain⟨g6,c6,rfl,_,_⟩:=Xp hown6 oM;have HIA:=Xa (HIi.below (Xe HB5.out (Xb (Below.refl w5.heap.size w5) (.cells #[.slice a5 lr c5] 62))));have HP:=Xa (HIA.pushR (c5:=c5) (ys:=rdI ⟨op,dst,ya,yb,imm⟩) hbe (B0:=wi.heap.size) oM HUR.out HUD.out ((HI5.keep (Xb (Below.refl w5.heap.size w5) _)).mono (Nat.le_refl _) sP) hg6 (by rw[<-HLR.out];exact hown6) (by rw[World.size_alloc];simpa using hat6));have hnb6:∀q',q' < w5.heap.size->some q'≠ur.ownBlock->w6.heap[q']?=w5.heap[q']?:=fun q' h1 h2=>(hg6.block q' (by simp;omega) h2).trans (Below.heap_alloc _ _ _ h1)
         have hz5:=HB5.size;have hfx:=hnb6 bx oM (fun e=>by have:=(HIi.ownR.lt bx e.symm).1;omega);have hfi:=hnb6 wr.heap.size oM (fun e=>by have:=HUR0.out _ e.symm;omega);have g3:=(Xc hfx).trans d3;have gz:w6.frozen? ⟨bx,3,none⟩=false:=by rw[World.frozen?_of_block (a:=⟨bx,3,none⟩) hfx];exact(HB5.frozen (p:=⟨bx,3,none⟩) hbi).trans sz3
         have t0:=(Xc hfi).trans p0;have t1:=(Xc hfi).trans p1;have t2:=(Xc hfi).trans p2;have t3:=(Xc hfi).trans p3;have t4:=(Xc hfi).trans p4;clear hown6 hg6 hat6 hnb6 hfx hfi p0 p1 p2 p3 p4 d3 hHeld
         (try clear d3')
         refine hK _ _ ⟨t0,t1,t2,t3,t4⟩ (fun hHeld=>?_);clear hK;refine Yg 7 ?_;refine Xz 8 (fun K hK=>?_);go_simp;have hs:∀(o':Nat)(v:Value),w6.cell? ⟨wr.heap.size,o',none⟩=some v->(w6.setCell ⟨bx,3,none⟩ (.slice (some ⟨g6,0,none⟩) (rs.length+1) c6)).cell? ⟨wr.heap.size,o',none⟩=some v:=fun o' v h2=>(World.cell?_setCell_far w6 ⟨bx,3,none⟩ ⟨wr.heap.size,o',none⟩ _ (by show bx≠wr.heap.size;omega)).trans h2
         refine hK _ _ ⟨hs _ _ t0,hs _ _ t1,hs _ _ t2,hs _ _ t3,hs _ _ t4⟩ (fun hHeld=>?_);have m0':=hs _ _ t0;have m1':=hs _ _ t1;clear hK hHeld hs t0 t1 t2 t3 t4 g3 gz
         try simp only[Act.put,xA,xB,xC,xD,xE,xF]
         refine Zu ?_;generalize w6.setCell ⟨bx,3,none⟩ (.slice (some ⟨g6,0,none⟩) (rs.length+1) c6)=w7 at *
         go_wp2_with fail
         refine(Zbs op w7).mono ?_;rintro e w8 ⟨rfl,hw8⟩;rw[hw8];clear hw8 w8;have k40:w7.cell? ⟨bx,4,none⟩=some ud:=by
          have h:=HP.box.cell (i:=4) vZ;rw[if_neg vZ,if_pos rfl]at h;exact h
         cases hdb:dB op
         ·have HDF:Hid (defI ⟨op,dst,ya,yb,imm⟩=(-1)):=Xa (by unfold defI;simp only[hdb];simp)
          clear hdb
          go_wp2_with (at_builtin;refine wpList_append_own_at _ rfl _ _ 26 rfl w2.heap.size 2 m0 (.int .i64 0) 1 8 Tryz.underlying26 hm0 hm1 hm2 hm3 rfl vZ _ _ _ rfl (HP.ownD.alloc _) ⟨w7.heap.size,0,none⟩ 1 1 [.int .i64 (-1)] rfl rfl ?c1 ?c2 ?c3 ?c4 ?c5 ?_)
          case c1 =>
           intro j' u' hj'
           match j',hj' with
           | 0,hj'=>simp at hj';subst hj';simp[Addr.add]
          case c2=>intro u' hu';simp at hu';subst hu';rfl
          case c3=>have:=HLD1.out;unfold maxLen;omega
          case c4=>have:=HLD1.out;omega
          case c5=>have:=HP.size;simp;omega
          intro u9 w9 hown9 hg9 _ hat9;obtain⟨g9,c9,rfl,_,_⟩:=Xp hown9 oM;have HPA:=Xa (HP.below (Xb (Below.refl w7.heap.size w7) (.cells #[.int .i64 (-1)] 2)));have hnb9:w9.heap[bx]?=(w7.alloc (.cells #[.int .i64 (-1)] 2)).heap[bx]?:=hg9.block bx (by have:=HPA.box.lt;exact this) (fun e=>by have:=(HP.ownD.lt bx e.symm).1;omega);have k4:w9.cell? ⟨bx,4,none⟩=some ud:=by
           have h:=HPA.box.cell (i:=4) vZ;rw[if_neg vZ,if_pos rfl]at h;exact(Xc hnb9).trans h
          have kz:w9.frozen? ⟨bx,4,none⟩=false:=by rw[World.frozen?_of_block (a:=⟨bx,4,none⟩) hnb9];exact HPA.box.frozen 4
          have HP9:=Xa (HPA.pushD (x:=(-1)) hbe hg9 hown9 (by rw[World.size_alloc];exact hat9));clear hown9 hg9 hat9 hnb9 m0' m1' k40
          go_wp2_with fail
          refine⟨?_,by simp[intOf];omega⟩
          first
           | exact⟨q+1,_,_,_,oM,gM,Xa (by rw[HTR.out,HTD.out,HDF.out];exact HP9.out)⟩
           | ((repeat apply Exists.intro);refine⟨?_,rfl⟩;exact⟨q+1,_,_,_,oM,gM,Xa (by rw[HTR.out,HTD.out,HDF.out];exact HP9.out)⟩)
         ·have HDF:Hid (defI ⟨op,dst,ya,yb,imm⟩=dst):=Xa (by unfold defI;simp only[hdb];simp)
          clear hdb
          go_wp2_with (at_builtin;refine wpList_append_own_at _ rfl _ _ 26 rfl w2.heap.size 2 m0 (.int .i64 0) 1 8 Tryz.underlying26 hm0 hm1 hm2 hm3 rfl vZ _ _ _ rfl (HP.ownD.alloc _) ⟨w7.heap.size,0,none⟩ 1 1 [.int .i64 dst] rfl rfl ?c1 ?c2 ?c3 ?c4 ?c5 ?_)
          case c1 =>
           intro j' u' hj'
           match j',hj' with
           | 0,hj'=>simp at hj';subst hj';simp[Addr.add]
          case c2=>intro u' hu';simp at hu';subst hu';rfl
          case c3=>have:=HLD1.out;unfold maxLen;omega
          case c4=>have:=HLD1.out;omega
          case c5=>have:=HP.size;simp;omega
          intro u9 w9 hown9 hg9 _ hat9;obtain⟨g9,c9,rfl,_,_⟩:=Xp hown9 oM;have HPA:=Xa (HP.below (Xb (Below.refl w7.heap.size w7) (.cells #[.int .i64 dst] 2)));have hnb9:w9.heap[bx]?=(w7.alloc (.cells #[.int .i64 dst] 2)).heap[bx]?:=hg9.block bx (by have:=HPA.box.lt;exact this) (fun e=>by have:=(HP.ownD.lt bx e.symm).1;omega);have k4:w9.cell? ⟨bx,4,none⟩=some ud:=by
           have h:=HPA.box.cell (i:=4) vZ;rw[if_neg vZ,if_pos rfl]at h;exact(Xc hnb9).trans h
          have kz:w9.frozen? ⟨bx,4,none⟩=false:=by rw[World.frozen?_of_block (a:=⟨bx,4,none⟩) hnb9];exact HPA.box.frozen 4
          have HP9:=Xa (HPA.pushD (x:=dst) hbe hg9 hown9 (by rw[World.size_alloc];exact hat9));clear hown9 hg9 hat9 hnb9 m0' m1' k40
          go_wp2_with fail
          refine⟨?_,by simp[intOf];omega⟩
          first
           | exact⟨q+1,_,_,_,oM,gM,Xa (by rw[HTR.out,HTD.out,HDF.out];exact HP9.out)⟩
           | ((repeat apply Exists.intro);refine⟨?_,rfl⟩;exact⟨q+1,_,_,_,oM,gM,Xa (by rw[HTR.out,HTD.out,HDF.out];exact HP9.out)⟩))
       ·have HQE:Hid (q=X.instrs.length):=Xa (by have:=HNI.out;omega)
        have HI2:Hid (InL w2 bx (fun i=>if i=2 then u else f0 i) wr ur ud rs (Zz X) (YN X)):=Xa (by
         have h:=HI.out;rw[List.take_of_length_le (by unfold Zz;rw[List.length_map];have:=HQE.out;omega),List.take_of_length_le (by unfold YN;rw[List.length_map];have:=HQE.out;omega)]at h;exact h)
        obtain⟨⟨aR,cR,eR,hR⟩,⟨aD,cD,eD,hD⟩⟩:=HI2.fin;obtain⟨aP,cP,eP,hP⟩:=HA.e1;obtain⟨aE,cE,eE,hE⟩:=HA.e5;obtain⟨a2,c2,e2,hi2⟩:=Xj HE2.own;have HBY:Hid (Below wo.heap.size wo Y):=Xa HA.low;have frW:∀q',q' < Y.heap.size->q'≠bx->wr.heap[q']?=Y.heap[q']?:=fun q' h1 h2=>(HI2.fr q' (by have:=HZE.out;omega) h2).trans (HE2.fr q' h1 h2)
        have HBR:Hid (Below wo.heap.size wo wr):=Xa ⟨HI2.os.trans (HE2.os.trans HBY.os),HI2.tape.trans (HE2.tape.trans HBY.tape),HI2.output.trans (HE2.output.trans HBY.output),by have:=HZE.out;omega,fun q' hq'=>(frW q' oM oM).trans (HBY.block q' hq')⟩;have HOW:Hid (wr.ownsRow (w.heap.size+1) 102 6 u3 k cs):=Xa (Yr HL.own (fun g e=>HBR.block g (HL.own.lt g e).2));have HFA:Hid (TQ wr (fun b=>wo.heap.size<=b) (Zas (.slice aT nT cT) (.slice aP X.phis.length cP) (.slice a2 (XB xs k).length c2) (.slice aR (Zz X).length cR) (.slice aD (YN X).length cD) (.slice aE (rdT X.term).length cE)) xs[k] (XB xs k)):=Xa (by
         rw[<-HX.out];have hzE':=HZE.out;refine⟨⟨aT,cT,by rw[<-HNT.out];rfl,?_⟩,⟨aP,cP,by rw[List.length_map];rfl,?_⟩,⟨a2,c2,rfl,?_⟩,⟨aR,cR,rfl,?_⟩,⟨aD,cD,rfl,?_⟩,⟨aE,cE,rfl,?_⟩⟩
         ·exact(HIT.keep (w':=wr) (fun b' h1 h2=>frW b' h1 h2.2) oM).mono (fun _ _ h=>h.1)
         ·exact(hP.keep (w':=wr) (fun b' h1 h2=>frW b' h1 h2.2) oM).mono (fun _ _ h=>h.1)
         ·have h5:=XW.of_at hi2 (Nat.le_refl _) (P:=fun b'=>Y.heap.size<=b') (fun b' h1 _=>h1)
          exact(h5.keep (w':=wr) (fun b' h1 h2=>HI2.fr b' h1 oM) hzI).mono (fun b' _ h=>by show wo.heap.size<=b';have h':Y.heap.size<=b':=h;omega)
         ·exact hR.mono (fun b' _ h=>by show wo.heap.size<=b';have h':w2.heap.size<=b':=h;omega)
         ·exact hD.mono (fun b' _ h=>by show wo.heap.size<=b';have h':w2.heap.size<=b':=h;omega)
         ·exact(hE.keep (w':=wr) (fun b' h1 h2=>frW b' h1 h2.2) oM).mono (fun _ _ h=>h.1))
        have bcell:=fun (i:Nat)(h:i<6)=>HI2.box.cell h
        have x0:wr.cell? ⟨bx,0,none⟩=some (.slice aT nT cT):=by
         have h:=bcell 0 vZ;simp only[Nat.reduceEqDiff,if_false]at h;rw[HET.out,<-HNT.out]at h;exact h
        have x1:wr.cell? ⟨bx,1,none⟩=some (.slice aP X.phis.length cP):=by
         have h:=bcell 1 vZ;simp only[Nat.reduceEqDiff,if_false]at h;rw[eP]at h;exact h
        have x2:wr.cell? ⟨bx,2,none⟩=some (.slice a2 (XB xs k).length c2):=by
         have h:=bcell 2 vZ;simp only[Nat.reduceEqDiff,if_false,if_true]at h;rw[e2]at h;exact h
        have x3:wr.cell? ⟨bx,3,none⟩=some (.slice aR (Zz X).length cR):=by
         have h:=bcell 3 vZ;simp only[Nat.reduceEqDiff,if_false,if_true]at h;rw[eR]at h;exact h
        have x4:wr.cell? ⟨bx,4,none⟩=some (.slice aD (YN X).length cD):=by
         have h:=bcell 4 vZ;simp only[Nat.reduceEqDiff,if_false,if_true]at h;rw[eD]at h;exact h
        have x5:wr.cell? ⟨bx,5,none⟩=some (.slice aE (rdT X.term).length cE):=by
         have h:=bcell 5 vZ;simp only[Nat.reduceEqDiff,if_false]at h;rw[eE]at h;exact h
        generalize X.phis.length=nP at *;generalize (XB xs k).length=l2 at *;generalize (Zz X).length=lR at *;generalize (YN X).length=lD at *;generalize (rdT X.term).length=lE at *;clear hR hD hP hE hi2 eR eD eP eE e2 bcell frW
        go_wp2_with (at_builtin;refine wpList_append_own_at _ rfl _ _ 99 rfl (w.heap.size+1) 102 i0 (.agg #[.slice none 0 0,.slice none 0 0,.slice none 0 0,.slice none 0 0,.slice none 0 0,.slice none 0 0]) 6 144 Tryz.underlying99 hi0 hz0 hz1 hz2 rfl vZ _ _ _ rfl (HOW.alloc _) ⟨wr.heap.size,0,none⟩ 1 1 [.slice aT nT cT,.slice aP nP cP,.slice a2 l2 c2,.slice aR lR cR,.slice aD lD cD,.slice aE lE cE] rfl rfl ?c1 ?c2 ?c3 ?c4 ?c5 ?_)
        case c1 =>
         intro j' u' hj';rw[Za7,World.cell?_alloc_new];simpa using hj'
        case c2 =>
         intro u' hu';simp at hu';rcases hu' with rfl | rfl | rfl | rfl | rfl | rfl<;>rfl
        case c3=>unfold maxLen;omega
        case c4=>omega
        case c5=>have:=HBR.size;simp;omega
        intro u9 w9 hown9 hg9 _ hat9;have HLS:=Xa (HL.next (f:=Zas (.slice aT nT cT) (.slice aP nP cP) (.slice a2 l2 c2) (.slice aR lR cR) (.slice aD lD cD) (.slice aE lE cE)) hkx (Xe HBR.out (Xb (Below.refl wr.heap.size wr) _)) (HFA.keep (fun b' h1 _=>Below.heap_alloc _ _ _ h1) sP) hg9 hown9 (by rw[World.size_alloc];exact hat9));clear hown9 hg9 hat9 x0 x1 x2 x3 x4 x5
        go_wp2_with fail
        refine hN.out _ _ ?_;refine⟨?_,by simp[intOf];omega⟩
        first
         | exact⟨k+1,_,oM,gM,HLS⟩
         | ((repeat apply Exists.intro);refine⟨?_,rfl⟩;exact⟨k+1,_,oM,gM,HLS⟩))
   clear HKc;exact Zi8 V n c b o k L B pa ia pc ic X w wr _ _ _ _ _ _ _ _ _ _ _ _ _ _ _ _ _ _ _ _ _ _ _ _ _ _ _ _ _ _ _ _ _ _ _ _ _ _ _ _ _ _ _ _ _ _ _ _ _ _ _ _ _ _ _ _ _ _ _ _ _ _ _ _ _ _ _ _ _ _ _ _ _ _ _ _ _ _ _ _ _ _ _ _ _ _ _ _ _ _ _ _ _ _ _ (Xa (fun c a t v w h=>hQ.out c a t v w h)) hB hwz hlt hf1 e0 e1 e2 e3 e4 e5 HPHS HLN KEY
  ·go_wp2_with fail
   go_ret
   have hke:k=xs.length:=by have:=hx.out;omega
   have h:=HL.out;rw[hke]at h;obtain⟨a',c',rfl,hF⟩:=h.fin;exact⟨a',c',by rw[hx.out];rfl,HL.low,hF⟩
end Go.Proofs.YthgikffcdgpgiaaGreatDoor
