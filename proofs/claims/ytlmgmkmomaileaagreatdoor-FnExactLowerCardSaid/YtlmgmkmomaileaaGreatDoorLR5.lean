import Derived.Test.YtlmgmkmomaileaaGreatDoorMV1
import Derived.Test.YtlmgmkmomaileaaGreatDoorN2
import Derived.Test.YtlmgmkmomaileaaGreatDoorSQ13
namespace Go.Proofs.YtlmgmkmomaileaaGreatDoor
set_option maxHeartbeats 4000000
set_option maxRecDepth 100000
open Go.RowKit
theorem Ziz{V:Nat}{xs:List Xh}(ho:Jd V xs){t:Nat}(ht:t<xs.length){p:Int}(hp:p∈predsFrom xs 0 (t:Int)):∀i (h:i<xs[t].phis.length),Zd (V:Int) (predsFrom xs 0 (t:Int)).length xs[t].phis[i]=true:=fun i h=>by
 have h1:=ho.phd _ (List.getElem_mem ht) _ (List.getElem_mem h);have h2:=ho.pha t ht _ (List.getElem_mem h);have h3:0<(predsFrom xs 0 (t:Int)).length:=List.length_pos_of_mem hp;unfold Zd Z5 Jj;simp only[Bool.and_eq_true,decide_eq_true_eq,List.all_eq_true,if_true];exact⟨⟨h1.1,h1.2⟩,⟨⟨oM,h2.1⟩,fun x hx=>h2.2 x hx⟩⟩
theorem Vx(lb V:Nat)(a:Option Addr)(n c:Nat)(xs:List Xh)(L B:Nat)(ac:Option Addr)(nc cc:Nat)(cs:List Int)(Lc Bc:Nat)(pa:Option Addr)(pc:Nat)(L2 B2:Nat)(f4 f5:Value)(p t:Nat)(w:World)(hbx:Hid (Bx w lb #[.int .i64 (V:Int),.slice a n c,.slice ac nc cc,.slice pa n pc,f4,f5] 61))(ha:Hid (Xk w L B a xs))(hx:Hid (n=xs.length))(hB:B<=w.heap.size)(ho:Hid (Jd V xs))(hc:Hid (Xf w Lc Bc ac cs))(hcx:Hid (nc=cs.length))(hcV:Hid (nc=V))(hBc:Bc<=w.heap.size)(hpp:Hid (XM w L2 B2 pa ((List.range n).map fun i:Nat=>predsFrom xs 0 (i:Int))))(hB2:B2<=w.heap.size)(hO:Hid (XQ w))(htn:t<n)(hp:Hid ((p:Int)∈predsFrom xs 0 (t:Int)))(hcr:Hid (∀z∈cs,-9223372036854775808<=z/\z<=9223372036854775807)) :
 Calls Tryz.prog 47 #[.pointer (some ⟨lb,0,none⟩),.int .i64 (p:Int),.int .i64 (t:Int)] w fun e w'=>∃v,e=.returned v/\v≠.slice none 0 0/\Below w.heap.size w w'/\w'.ownsRow w.heap.size 54 5 v (Kb cs xs p (t:Int)).length (Y1 (Kb cs xs p (t:Int))):=by
 obtain⟨i0,hi0,hz0,hz1,hz2⟩:=info_parts Tryz.infoMv;have htx:t<xs.length:=by have:=hx.out;omega
 have HTK:=Xa (ZbV ho.out htx hp.out);have HMV:Hid (KA cs xs p (t:Int)=(takesR (ZX (predsFrom xs 0 (t:Int)) (p:Int)) (KH xs (t:Int))).map fun q=>⟨lcN cs q.1,lcN cs q.2⟩):=Xa rfl;have HTP:Hid (takesR (ZX (predsFrom xs 0 (t:Int)) (p:Int)) (KH xs (t:Int))=takesR (ZX (predsFrom xs 0 (t:Int)) (p:Int)) xs[t].phis):=Xa (by rw[Uo xs htx]);have HCE:Hid (Kb cs xs p (t:Int)=JA (KA cs xs p (t:Int))):=Xa rfl;have hn1:n<=1000:=by have:=hx.out;have:=ho.okf.n2;omega
 have HPL:Hid (xs[t].phis.length<=4000):=Xa (ho.lens _ (List.getElem_mem htx)).2;have HED:Hid (∀W,Below w.heap.size w W->Calls Tryz.prog 78 #[.agg #[.int .i64 (V:Int),.slice a n c],.slice pa n pc,.int .i64 (p:Int),.int .i64 (t:Int)] W fun e w'=>∃ta ct,e=.returned (.agg #[.int .i64 (t:Int),.slice ta xs[t].phis.length ct])/\Below W.heap.size W w'/\ZK w' W.heap.size w'.heap.size ta (takesR (ZX (predsFrom xs 0 (t:Int)) (p:Int)) xs[t].phis)):=Xa (fun W hW=>ZbB (V:Int) a n c pa n pc p t xs _ xs[t] (predsFrom xs 0 (t:Int)) (V:Int) L B L2 B2 W (Xa (ha.keep (hW.mono hB))) hx (by have:=hW.size;omega) (Xa (hpp.keep (hW.mono hB2))) (Xa sP) (by have:=hW.size;omega) htn htn (Xa (fun _=>rfl)) (Xa (fun h=>sP)) (by have:=Yl (t:Int) xs 0;have:=hx.out;omega) (by have:=HPL.out;omega) hp (Xa (Ziz ho.out htx hp.out)));have hlb:=hbx.lt;have b0:w.cell? ⟨lb,0,none⟩=some (.int .i64 (V:Int)):=Bx.cell hbx.out rfl;have b1:w.cell? ⟨lb,1,none⟩=some (.slice a n c):=Bx.cell hbx.out rfl;have b3:w.cell? ⟨lb,3,none⟩=some (.slice pa n pc):=Bx.cell hbx.out rfl;obtain⟨T,hT⟩:∃T,T=takesR (ZX (predsFrom xs 0 (t:Int)) (p:Int)) (KH xs (t:Int)):=⟨_,rfl⟩;rw[<-hT]at HTK HMV HTP;rw[<-HTP.out]at HED;have HTL:Hid (xs[t].phis.length=T.length):=Xa (by rw[HTP.out];simp[takesR]);rw[HTL.out]at HED HPL;obtain⟨m,hm⟩:∃m,m=T.length:=⟨_,rfl⟩;rw[<-hm]at HED HPL;have HM:=Xa hm;clear hm hT HTP HTL;have hm1:m<=4000:=HPL.out;have HCH:Hid (Calls Tryz.prog 78 #[.agg #[.int .i64 (V:Int),.slice a n c],.slice pa n pc,.int .i64 (p:Int),.int .i64 (t:Int)] (w.alloc (.cells #[] 85)).drew fun e w'=>∃ta ct,e=.returned (.agg #[.int .i64 (t:Int),.slice ta m ct])/\w'.cell? ⟨lb,0,none⟩=some (.int .i64 (V:Int))/\w'.cell? ⟨lb,1,none⟩=some (.slice a n c)/\w'.cell? ⟨lb,3,none⟩=some (.slice pa n pc)/\Hid (Below (w.heap.size+1) (w.alloc (.cells #[] 85)).drew w'/\ZK w' (w.heap.size+1) w'.heap.size ta T)/\(∀W,Sem.run Tryz.prog (Instr.field 159 (.agg #[.int .i64 (t:Int),.slice ta m ct]) 1) W=.ok (.slice ta m ct) W)):=Xa ((HED.out (w.alloc (.cells #[] 85)).drew (Xb (Below.refl _ _) _).drew).mono (by
  rintro e w1 ⟨ta,ct,rfl,hb1,hat⟩;have hs1:(w.alloc (.cells #[] 85)).drew.heap.size=w.heap.size+1:=by show(w.alloc _).heap.size=_;simp
  rw[hs1]at hb1 hat;have kw:=(Xb (Below.refl w.heap.size w) (.cells #[] 85)).drew.trans (hb1.mono (Nat.le_succ _));exact⟨ta,ct,rfl,(kw.cell (p:=⟨lb,0,none⟩) hlb).trans b0,(kw.cell (p:=⟨lb,1,none⟩) hlb).trans b1,(kw.cell (p:=⟨lb,3,none⟩) hlb).trans b3,Xa ⟨hb1,hat⟩,fun W=>vZ⟩))
 clear HED
 go_enter Tryz.func47,Tryz.ntmps47
 go_wp2_with fail
 go_region_held3 (fun w'=>w'.cell? ⟨lb,0,none⟩=some (.int .i64 (V:Int))/\w'.cell? ⟨lb,1,none⟩=some (.slice a n c)/\w'.cell? ⟨lb,3,none⟩=some (.slice pa n pc)) (go_keep)
  (first
   | (go_at_call 78;with_reducible refine HCH.out.mono ?_;rintro e w1 ⟨ta,ct,rfl,f0,f1,f3,HB1,hfd⟩))
 obtain⟨hb1,hat⟩:=HB1.out;have HAT:=Xa hat;have HTY:Hid ((∀q∈T,(0<=q.1/\q.1<V)/\(0<=q.2/\q.2<V))):=HTK;have hw1:w.heap.size+1<=w1.heap.size:=by have:=hb1.size;have hs1:(w.alloc (.cells #[] 85)).drew.heap.size=w.heap.size+1:=(by show(w.alloc _).heap.size=_;simp);omega
 have HB1w:Hid (Below w.heap.size w w1):=Xa ((Xb (Below.refl w.heap.size w) (.cells #[] 85)).drew.trans (hb1.mono (Nat.le_succ _)));have HO1:Hid (w1.ownsRow w.heap.size 85 2 (.slice (some ⟨w.heap.size,0,none⟩) 0 0) 0 []):=Xa (by
  have h0:=World.ownsRow_lit (base:=w.heap.size) (e:=85) (size:=2) w #[] 0 (Nat.le_refl _) sP rfl;have h1:XJ (w.alloc (.cells #[] 85)).drew (fun b=>if b=w.heap.size then (0,0,0)else (1,0,0)) (0,0,0) w.heap.size 85 2 (.slice (some ⟨w.heap.size,0,none⟩) 0 0) 0 []:=⟨h0,fun b e=>if_pos (by injection e with e;exact e.symm)⟩;exact(h1.keep (w':=w1) (fun b _ h2 e=>⟨hb1.block b (by
   by_cases hq:b=w.heap.size
   ·omega
   ·rw[if_neg hq]at e;simp at e),e⟩)).own)
 clear hat hb1 HB1 HCH hfd b0 b1 b3 f0 f1 f3;go_wp2
 go_loopw [7,24] (fun v i wr=>∃j:Nat,j<=m/\i=.int .i64 j/\Hid (Below w.heap.size w wr/\Xv (w.heap.size+1) w1.heap.size w1 wr/\w1.heap.size<=wr.heap.size)/\Hid (wr.ownsRow w.heap.size 85 2 v ((KA cs xs p (t:Int)).take j).length (Tz ((KA cs xs p (t:Int)).take j)))/\Hid (v≠.slice none 0 0/\∀b,v.ownBlock=some b->b=w.heap.size\/w1.heap.size<=b)) (fun _ i _=>m-(intOf i).toNat)
 case atStart=>exact⟨0,Nat.zero_le _,rfl,Xa ⟨HB1w.out,Xv.refl _ _ _,Nat.le_refl _⟩,HO1,Xa ⟨sP,fun b e=>Or.inl (by injection e with e;exact e.symm)⟩⟩
 case round =>
  obtain⟨j,hj,rfl,HB,HO,HV⟩:=hrel;have HML:Hid ((KA cs xs p (t:Int)).length=m):=Xa (by rw[HMV.out,List.length_map];exact HM.symm);by_cases hlt:j<m
  ·have hjT:j<T.length:=by have:=HM.out;omega
   have htk:=HTK.out _ (List.getElem_mem hjT);obtain⟨ab,ao,rfl,⟨hab,haB⟩,hca1,hca2⟩:=(HAT.keepS HB.2.1) j hjT;have HMJ:Hid ((KA cs xs p (t:Int)).take (j+1)=(KA cs xs p (t:Int)).take j++[⟨lcN cs T[j].1,lcN cs T[j].2⟩]):=Xa (by
    rw[List.take_succ_eq_append_getElem (by have:=HML.out;omega)];congr 1;simp[HMV.out])
   have HTL:Hid (((KA cs xs p (t:Int)).take j).length=j):=Xa (by rw[List.length_take,HML.out];omega);obtain⟨cb,co,k1,hv1,hk1,rfl,hcb1,hcc1⟩:=Ja (hc.keep (HB.1.mono hBc)) htk.1.1 (by have:=hcx.out;have:=hcV.out;omega);obtain⟨cb',co',k2,hv2,hk2,hce,hcb2,hcc2⟩:=Ja (hc.keep (HB.1.mono hBc)) htk.2.1 (by have:=hcx.out;have:=hcV.out;omega);injection hce with hce;injection hce with hc1 hc2;subst hc1 hc2;rw[hv1]at hca1 hcc1 HMJ;rw[hv2]at hca2 hcc2 HMJ;have hk1I:(k1:Int)<(nc:Int):=by have:=hcx.out;omega
   have hk2I:(k2:Int)<(nc:Int):=by have:=hcx.out;omega
   have hjm:(j:Int)<(m:Int):=oM;have hbr:w1.heap.size<=wr.heap.size:=HB.2.2;have hlbr:lb<wr.heap.size:=oM;have hcbr:cb<wr.heap.size:=oM;have hlbn:lb≠wr.heap.size:=oM;have hcbn:cb≠wr.heap.size:=oM;have l2:wr.cell? ⟨lb,2,none⟩=some (.slice (some ⟨cb,co,none⟩) nc cc):=(HB.1.cell (p:=⟨lb,2,none⟩) hlb).trans (Bx.cell hbx.out rfl);obtain⟨g,cg,hvv⟩:∃g cg,u7=.slice g ((KA cs xs p (t:Int)).take j).length cg:=by
    rcases XU HO.out with⟨e,h,_⟩ | ⟨g,cg,e,_⟩
    ·exact absurd e HV.1
    ·exact⟨_,_,e⟩
   rw[HTL.out]at hvv;subst hvv;generalize lcN cs (k1:Int)=z1 at *;generalize lcN cs (k2:Int)=z2 at *;clear hv1 hv2 htk;go_wp2;have hbt:=(Xb (Below.refl wr.heap.size wr) (.cells #[.int .i64 (k1:Int),.int .i64 (k2:Int)] 162));have hBx:=Bx.new wr #[.int .i64 (k1:Int),.int .i64 (k2:Int)] 162;have t0:(wr.alloc (.cells #[.int .i64 (k1:Int),.int .i64 (k2:Int)] 162)).cell? ⟨wr.heap.size,0,none⟩=some (.int .i64 (k1:Int)):=Bx.cell hBx rfl;have t1:(wr.alloc (.cells #[.int .i64 (k1:Int),.int .i64 (k2:Int)] 162)).cell? ⟨wr.heap.size,1,none⟩=some (.int .i64 (k2:Int)):=Bx.cell hBx rfl;have s2:=(hbt.cell (p:=⟨lb,2,none⟩) hlbr).trans l2;have s3:=(hbt.cell (p:=⟨cb,co+k1,none⟩) hcbr).trans hcc1;have s4:=(hbt.cell (p:=⟨cb,co+k2,none⟩) hcbr).trans hcc2;have HOT:Hid ((wr.alloc (.cells #[.int .i64 (k1:Int),.int .i64 (k2:Int)] 162)).ownsRow w.heap.size 85 2 (.slice g j cg) j (Tz ((KA cs xs p (t:Int)).take j))):=Xa (World.ownsRow.alloc (by have:=HO.out;rw[HTL.out]at this;exact this) _);have HBT:Hid (Below w.heap.size w (wr.alloc (.cells #[.int .i64 (k1:Int),.int .i64 (k2:Int)] 162))/\Xv (w.heap.size+1) w1.heap.size w1 (wr.alloc (.cells #[.int .i64 (k1:Int),.int .i64 (k2:Int)] 162))):=Xa ⟨HB.1.alloc HB.1.size _,HB.2.1.trans (Xv.of_below (hbt.mono hbr))⟩;have HSZ:Hid ((wr.alloc (.cells #[.int .i64 (k1:Int),.int .i64 (k2:Int)] 162)).heap.size=wr.heap.size+1):=Xa sP;have HWR:=Xa HB.1.size;have hgr:Hid (∀b,(Value.slice g j cg).ownBlock=some b->b<wr.heap.size):=Xa (fun b e=>by have:=HO.out;exact(this.lt b e).2);clear hbt hBx l2 hcc1 hcc2 hca1 hca2 HO HB;generalize wr.alloc (.cells #[.int .i64 (k1:Int),.int .i64 (k2:Int)] 162)=wt at *;have htz:wt.heap.size=wr.heap.size+1:=HSZ.out;have hwz:=HWR.out;generalize wr.heap.size=tb at *;have htw:tb<wt.heap.size:=oM;have hlw:lb<wt.heap.size:=oM;have hcw:cb<wt.heap.size:=oM;have hwt:w.heap.size<=wt.heap.size:=oM;have hw1t:w1.heap.size<=wt.heap.size:=oM;clear htz;refine Z1 (fun w'=>w'.cell? ⟨lb,2,none⟩=some (.slice (some ⟨cb,co,none⟩) nc cc)/\w'.cell? ⟨tb,0,none⟩=some (.int .i64 (k1:Int))/\w'.cell? ⟨tb,1,none⟩=some (.int .i64 (k2:Int))/\w'.cell? ⟨cb,co+k1,none⟩=some (.int .i64 z1)/\w'.cell? ⟨cb,co+k2,none⟩=some (.int .i64 z2)) (fun hHeld=>?_);refine Xi 0 ?_;refine Xi 1 ?_;refine Xi 2 ?_;refine Xi 3 ?_;refine Xi 4 ?_;refine Xi 5 ?_;refine Xi 6 ?_;refine Xi 7 ?_;refine Xi 8 ?_;refine Xi 9 ?_;refine Xi 10 ?_;refine Xi 11 ?_;refine Xi 12 ?_;refine Xi 13 ?_;refine Xi 14 ?_;refine Xi 15 ?_;refine Xi 16 ?_;refine Xi 17 ?_;refine Xt 18 (fun K hK=>?_);go_simp;refine hK _ _ kP (fun hHeld=>?_);clear hK;refine Xt 19 (fun K hK=>?_);refine Yf rfl _ _ 81 rfl w.heap.size 85 i0 (.agg #[.int .i64 0,.int .i64 0]) 2 16 Tryz.underlying81 hi0 hz0 hz1 hz2 rfl dC (.slice g j cg) j (Tz ((KA cs xs p (t:Int)).take j)) rfl ?s1 ⟨wt.heap.size,0,none⟩ 1 1 [.int .i64 z1,.int .i64 z2] rfl rfl ?s2 ?s3 ?s4 ?s5 ?s6 ?_
   case s1=>exact World.ownsRow.alloc (w:=wt.drew) HOT.out _
   case s2=>exact Tg _ _ _ _
   case s3=>intro u hu;simp at hu;rcases hu with rfl | rfl<;>rfl
   case s4=>unfold maxLen;omega
   case s5=>omega
   case s6=>simp;omega
   intro v8 w8 hown8 hg8 hne8 hat8;have HOA:Hid ((wt.drew.alloc (.cells #[.int .i64 z1,.int .i64 z2] 85)).ownsRow w.heap.size 85 2 (.slice g j cg) j (Tz ((KA cs xs p (t:Int)).take j))):=Xa (World.ownsRow.alloc (w:=wt.drew) HOT.out _);have k8:∀b,b<wt.heap.size->some b≠(Value.slice g j cg).ownBlock->w8.heap[b]?=wt.heap[b]?:=fun b hb hne=>(hg8.block b (by simp;omega) hne).trans (Below.heap_alloc wt.drew _ _ hb)
   have HBS8:Hid (w1.heap.size<=w8.heap.size):=Xa (by have:=hg8.size;simp at this;omega);have HB8:Hid (Below w.heap.size w w8):=Xa (Xr (Below.alloc HBT.1.drew (show w.heap.size<=wt.heap.size by omega) _) hg8 HOA.out (Nat.le_refl _) (by simp;omega));have HS8:Hid (Xv (w.heap.size+1) w1.heap.size w1 w8):=Xa (fun b h1 h2=>(k8 b oM (fun e=>by have:=HV.2 b e.symm;omega)).trans (HBT.2 b h1 h2));have HO8:Hid (w8.ownsRow w.heap.size 85 2 v8 ((KA cs xs p (t:Int)).take (j+1)).length (Tz ((KA cs xs p (t:Int)).take (j+1)))):=Xa (by
    rw[HMJ.out,Tj,List.length_append,HTL.out];exact hown8)
   have HV8:Hid (v8≠.slice none 0 0/\∀b,v8.ownBlock=some b->b=w.heap.size\/w1.heap.size<=b):=Xa ⟨fun e=>by have:=(hne8.1 e).2;omega,fun b e=>by
    rcases hat8 with h | h
    ·rw[h]at e;exact HV.2 b e
    ·rw[h]at e;injection e with e;right;rw[<-e];simp;omega⟩
   have hc8:∀b o,b<wt.heap.size->some b≠(Value.slice g j cg).ownBlock->w8.cell? ⟨b,o,none⟩=wt.cell? ⟨b,o,none⟩:=fun b o hb hne=>Xc (k8 b hb hne)
   have nlb:∀b,b<w.heap.size->some b≠(Value.slice g j cg).ownBlock:=fun b hb e=>by have:=(HOT.lt b e.symm).1;omega
   have ntb:some tb≠(Value.slice g j cg).ownBlock:=fun e=>by have:=hgr.out tb e.symm;omega
   refine hK _ _ ⟨(hc8 _ _ hlw (nlb _ hlb)).trans s2,(hc8 _ _ htw ntb).trans t0,(hc8 _ _ htw ntb).trans t1,(hc8 _ _ hcw (nlb _ oM)).trans s3,(hc8 _ _ hcw (nlb _ oM)).trans s4⟩ (fun hHeld=>?_);clear hK hown8 hg8 hne8 hat8 hc8 k8 nlb ntb HOA
   try simp only[Act.put,xA,xB,xC,xD,xE,xF]
   refine Xi 20 ?_;refine YA ?_;clear hHeld;go_wp2;exact⟨⟨j+1,oM,gM,Xa ⟨HB8.out,HS8.out,HBS8.out⟩,HO8,HV8⟩,by simp[intOf];omega⟩
  ·have HE:Hid ((KA cs xs p (t:Int)).take j=KA cs xs p (t:Int)):=Xa (List.take_of_length_le (by rw[HML.out];omega))
   have HO9:=HO;rw[HE.out]at HO9;obtain⟨aq,cq,hvv,_,_,hmv⟩:=Z0 HO9.out;rw[HML.out]at hvv;have HMV2:=Xa hmv;subst hvv;have hjI:¬(j:Int)<(m:Int):=oM;have HCR:Hid (∀x∈KA cs xs p (t:Int),-9223372036854775808<=x.to/\x.to<=9223372036854775807):=Xa (fun x hx=>by
    rw[HMV.out]at hx;obtain⟨q,_,rfl⟩:=List.mem_map.1 hx;show -9223372036854775808<=lcN cs q.1/\lcN cs q.1<=9223372036854775807;unfold lcN;rw[List.getD_eq_getElem?_getD];cases hq:cs[q.1.toNat]? with
    | none=>simp
    | some z=>exact hcr.out z (List.mem_of_getElem? hq))
   clear hmv HO HAT HO1
   go_wp2_with fail
   refine(ZhN aq m cq (KA cs xs p (t:Int)) w.heap.size wr.heap.size wr HMV2 (Xa HML.symm) oM (Nat.le_refl _) HCR (Xa (hO.keep HB.1 hO.1))).mono ?_;rintro e w5 ⟨v5,rfl,hv5,hb5,ho5⟩;have HB5:=Xa (Xd HB.1 hb5);have HO5:Hid (w5.ownsRow w.heap.size 54 5 v5 (Kb cs xs p (t:Int)).length (Y1 (Kb cs xs p (t:Int)))):=Xa (by
    rw[HCE.out];exact X9 ho5 HB.1.size)
   have HV5:=Xa hv5;clear hb5 ho5 hv5;go_wp2
   go_ret
   exact⟨_,rfl,HV5.out,HB5.out,HO5.out⟩
end Go.Proofs.YtlmgmkmomaileaaGreatDoor
