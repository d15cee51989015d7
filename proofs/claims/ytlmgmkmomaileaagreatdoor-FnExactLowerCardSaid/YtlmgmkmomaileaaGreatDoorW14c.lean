import Derived.Test.YtlmgmkmomaileaaGreatDoorW15
import Derived.Test.YtlmgmkmomaileaaGreatDoorWS0
namespace Go.Proofs.YtlmgmkmomaileaaGreatDoor
set_option maxHeartbeats 2000000
open Go.RowKit
theorem UL(v:Int)(a:Option Addr)(n c:Nat)(xs:List Xh)(L B:Nat)(w:World)(ha:Hid (Xk w L B a xs))(hx:Hid (n=xs.length))(hn:n<=1048576)(hB:B<=w.heap.size)(hg:Hid (ZaI xs n)) :
 Calls Tryz.prog 22 #[.agg #[.int .i64 v,.slice a n c]] w fun e w'=>∃U,e=.returned (.slice (some ⟨w.heap.size+1,0,none⟩) n n)/\Below w.heap.size w w'/\YL w' (w.heap.size+1) n (fun i:Nat=>predsFrom xs 0 (i:Int)) U:=by
 obtain⟨i0,hi0,hz0,hz1,hz2⟩:=info_parts Tryz.info2';have hmk:=run_make_row' (P:=Tryz.prog) 58 25 (.slice none 0 0) 24 Tryz.underlying58 Tryz.info45 rfl .i64 .i64 n oM oM
 go_enter Tryz.func22,Tryz.ntmps22
 go_wp2
 go_loopw [15] (fun i wr=>∃k:Nat,k<=n/\i=.int .i64 k/\Below w.heap.size w wr/\Hid (∃U,YL wr (w.heap.size+1) n (Yc xs k []) U)) (fun i _=>n-(intOf i).toNat)
 case atStart=>exact⟨0,Nat.zero_le _,rfl,Xb (Xb (Below.refl _ _) _) _,⟨_,by have:=YL.born (w.alloc (.cells #[.int .i64 v,.slice a n c] 33)) n;rw[World.size_alloc]at this;exact this⟩⟩
 case round =>
  obtain⟨k,hk,rfl,hw,hrw⟩:=hrel;by_cases hlt:k<n
  ·have hkx:k<xs.length:=by have:=hx.out;omega
   obtain⟨b,o,rfl,⟨_,hbB⟩,hc⟩:=ha.out k hkx;obtain⟨pa,pc,ia,ic,e0,e1,⟨e2,e3,e4,e5⟩,_,_⟩:=hc.keep (hw.mono hB) oM;have hwh:=Xa (fun i=>KI xs k i hkx);obtain⟨hg1,hg2⟩:=hg.out _ (List.getElem_mem hkx);have HG1:=Xa hg1;have HG2:=Xa hg2;clear hc hg1 hg2;generalize xs[k]=X at *
   go_wp2_with fail
   refine(ZY X.term _).mono ?_;rintro e w2 ⟨a1,c1,rfl,hb2,hi2⟩;have hb3:=Xd (Xb (Below.refl wr.heap.size wr) _) hb2;have hz3:=hb2.size;simp at hz3;have hz4:wr.heap.size<w2.heap.size:=oM;have HI:=Xa hi2;have hGlt:w.heap.size+1<wr.heap.size:=by obtain⟨U,hU⟩:=hrw.out;exact hU.1.lt
   have HR:Hid (∃U,YL w2 (w.heap.size+1) n (Yc xs k []) U/\∀i g,i<n->(U i).ownBlock=some g->g<=wr.heap.size\/w2.heap.size<=g):=by
    obtain⟨U,hU⟩:=hrw.out;exact⟨U,hU.below hb3,fun i g hi hg=>by have:=((hU.2.1 i hi).lt g hg).2;omega⟩
   have HW:=Xa (Xd hw hb3);have htl:X.term.targets.length<=2:=by unfold Zu.targets;split<;>(try split)<;>simp
   generalize hT:X.term.targets=ts at *;clear hT hi2 hrw e0 e1 e2 e3 e4 e5 hw;simp only[World.size_alloc]at HI;generalize hM:wr.heap.size=M at *;clear hM;go_wp2
   go_loopw [24] (fun i wi=>∃j:Nat,j<=ts.length/\i=.int .i64 j/\Below w.heap.size w wi/\w2.heap.size<=wi.heap.size/\Hid (Xf wi (M+1) w2.heap.size a1 ts)/\Hid (∃U,YL wi (w.heap.size+1) n (Yc xs k (ts.take j)) U/\∀i g,i<n->(U i).ownBlock=some g->g<=M\/w2.heap.size<=g)) (fun i _=>ts.length-(intOf i).toNat)
   case atStart=>exact⟨0,Nat.zero_le _,rfl,HW.out,Nat.le_refl _,HI.out,HR.out⟩
   case round =>
    obtain⟨j,hj,rfl,hwi,hszi,hii,hri⟩:=hrel;by_cases hjt:j<ts.length
    ·obtain⟨b',o',rfl,_,hcj⟩:=hii.out j hjt
     obtain⟨ht0,ht1⟩:=HG1.out _ (List.getElem_mem hjt);have hnd:Hid (ts[j] ∉ ts.take j):=by
      intro hm;obtain⟨m,hm1,hm2⟩:=List.getElem_of_mem hm;simp only[List.length_take]at hm1;rw[List.getElem_take]at hm2;have:=(List.getElem_inj HG2.out).1 hm2;omega
     have hts:Hid (ts.take (j+1)=ts.take j++[ts[j]]):=Xq _ _ hjt;obtain⟨U,hU,hav⟩:=hri.out;have HAV:=Xa hav;clear hav;obtain⟨t,htt⟩:=Int.eq_ofNat_of_zero_le ht0;generalize ts[j]=T at *;subst htt;have htn:t<n:=oM;have hcU:=hU.1.cell htn;have hfU:=hU.1.frozen t;have hpl:=UC xs k t (ts.take j) (by have:=hx.out;omega);have HU:=Xa hU;clear hU hri
     go_wp2_with (at_builtin;refine wpList_append_own_at _ rfl _ _ 25 rfl (w.heap.size+1+1) 2 i0 (.int .i64 0) 1 8 Tryz.underlying25 hi0 hz0 hz1 hz2 rfl dC _ _ _ rfl ((HU.alloc _).2.1 t htn) ⟨wr.heap.size,0,none⟩ 1 1 [.int .i64 k] rfl rfl ?c1 ?c2 ?c3 ?c4 ?c5 ?_)
     case c1 =>
      intro j u hj
      match j,hj with
      | 0,hj=>simp at hj;subst hj;simp[Addr.add]
     case c2=>intro u hu;simp at hu;subst hu;rfl
     case c3=>unfold maxLen;omega
     case c4=>omega
     case c5=>have:=HU.1.lt;simp;omega
     intro v1 w1 hown1 hgrow1 _ hat1;obtain⟨av,cv,hv,_⟩:=Xl (xs:=Yc xs k (ts.take j) t++[(k:Int)]) (by rw[Yo];exact hown1);have hst:=Xa ((HU.alloc (.cells #[.int .i64 k] 2)).step htn k v1 hgrow1 hown1 (by rw[World.size_alloc];exact hat1));have hbG:w1.heap[w.heap.size+1]?=(wr.alloc (.cells #[.int .i64 k] 2)).heap[w.heap.size+1]?:=YD hgrow1 ((HU.alloc (.cells #[.int .i64 k] 2)).2.1 t htn) oM (by have:=HU.1.lt;simp;omega);have hbel:=Xa (Xr (Xb hwi (.cells #[.int .i64 k] 2)) hgrow1 ((HU.alloc (.cells #[.int .i64 k] 2)).2.1 t htn) oM (by have:=hwi.size;simp;omega));have hcG:w1.cell? ⟨w.heap.size+1,t,none⟩=some (U t):=by rw[Xc hbG];exact((HU.alloc (.cells #[.int .i64 k] 2)).1).cell htn
     have hfG:w1.frozen? ⟨w.heap.size+1,t,none⟩=false:=by rw[World.frozen?_of_block (w:=wr.alloc (.cells #[.int .i64 k] 2)) (a:=⟨w.heap.size+1,t,none⟩) hbG];exact((HU.alloc (.cells #[.int .i64 k] 2)).1).frozen t
     have hgz:=hgrow1.size;simp at hgz;have hsm:Xv (M+1) w2.heap.size wr w1:=fun q q1 q2=>(hgrow1.block q (by simp;omega) (fun e=>by have:=HAV.out t q htn e.symm;omega)).trans (Below.heap_alloc _ _ _ oM)
     have HSM:=Xa hsm;have hii2:=Xa (hii.keepS hsm);have HAT:=Xa hat1;have HV:=Xa hv;clear hsm;clear hown1 hgrow1 hat1 hbG hcU hfU;rw[hv];clear hv;go_wp2;have hv2:=HV.out;rw[List.length_append,List.length_cons,List.length_nil,Nat.zero_add]at hv2;rw[<-hv2];refine⟨⟨j+1,oM,gM,hbel.setCell (by dsimp only;omega) _,by rw[Xe];omega,hii2.keepS ((Xv.refl _ _ _).setCell (Or.inl (by dsimp only;omega)) _),⟨_,(hst.out).congr (fun i _=>?_),fun i g hi hg=>?_⟩⟩,by simp[intOf];omega⟩
     ·rw[hts.out,TA xs k i (ts.take j) t hnd.out]
     ·by_cases e:i=t
      ·subst e
       simp only[if_true]at hg;rcases HAT.out with q | q
       ·exact HAV.out i g hi (by rw[<-q];exact hg)
       ·rw[q]at hg
        have:=Option.some.inj hg;omega
      ·simp only[e,if_false]at hg
       exact HAV.out i g hi hg
    ·have E:=Xa (List.take_of_length_le (l:=ts) (i:=j) oM)
     go_wp2;refine⟨⟨k+1,oM,gM,hwi,?_⟩,by simp[intOf];omega⟩;obtain⟨U,hU,_⟩:=hri.out;exact⟨U,hU.congr (fun i _=>by rw[E.out,hwh.out,Jc])⟩
  ·go_wp2
   go_ret
   obtain⟨U,hU⟩:=hrw.out;have e:=List.take_of_length_le (l:=xs) (i:=k) (by have:=hx.out;omega);exact⟨U,rfl,hw,hU.congr (P':=fun i:Nat=>predsFrom xs 0 (i:Int)) (fun i _=>by rw[Jc,e])⟩
end Go.Proofs.YtlmgmkmomaileaaGreatDoor
namespace Go.Proofs.YtlmgmkmomaileaaGreatDoor
set_option maxHeartbeats 4000000
set_option maxRecDepth 100000
open Go.RowKit
structure PuI(w2 wr:World)(G n K:Nat)(gs:Nat->Nat)(Ws:Nat->Nat->Nat)(E:List (Nat × Nat)):Prop where
 sets:XB wr G n K gs (fun _=>K) Ws
 wd:XX Ws
 fr:FrS w2 wr n gs
 has:∀b,b<n->∀v,Xg (Ws b) v=true↔(b,v)∈E
def PuE(w2 wr:World)(G n K:Nat)(gs:Nat->Nat)(E:List (Nat × Nat)):Prop:=∃Ws,PuI w2 wr G n K gs Ws E
theorem PuI.below{w2 wr wr':World}{G n K:Nat}{gs:Nat->Nat}{Ws:Nat->Nat->Nat}{E:List (Nat × Nat)}(h:PuI w2 wr G n K gs Ws E)(k:Below wr.heap.size wr wr'):PuI w2 wr' G n K gs Ws E:=⟨h.sets.keep k,h.wd,h.fr.below k,h.has⟩
theorem PuE.below{w2 wr wr':World}{G n K:Nat}{gs:Nat->Nat}{E:List (Nat × Nat)}(h:PuE w2 wr G n K gs E)(k:Below wr.heap.size wr wr'):PuE w2 wr' G n K gs E:=by
 obtain⟨Ws,h⟩:=h;exact⟨Ws,h.below k⟩
theorem PuI.add{w2 wr wr':World}{G n K p v:Nat}{gs:Nat->Nat}{Ws:Nat->Nat->Nat}{E:List (Nat × Nat)}(h:PuI w2 wr G n K gs Ws E)(hp:p<n)(k:wr.grownBy wr' (some (gs p)))(hr:WsAt wr' (gs p) K K (addsN (Ws p) [v])):PuI w2 wr' G n K gs (fun i=>if i=p then addsN (Ws p) [v]else Ws i) (E++[(p,v)]):=by
 refine⟨h.sets.wrote hp k hr,fun i=>?_,h.fr.grown k hp,fun b hb x=>?_⟩
 ·by_cases e:i=p
  ·simp only[if_pos e];exact Zs _ (h.wd p)
  ·simp only[if_neg e];exact h.wd i
 ·by_cases e:b=p
  ·subst e
   simp only[if_true,List.mem_append,List.mem_singleton,Prod.mk.injEq,true_and];rw[Zl,Bool.or_eq_true,decide_eq_true_eq,List.mem_singleton,h.has b hb x];exact or_comm
  ·simp only[if_neg e,List.mem_append,List.mem_singleton,Prod.mk.injEq]
   rw[h.has b hb x];exact⟨Or.inl,fun h=>h.elim id (fun h=>absurd h.1 e)⟩
theorem Zha{xs:List Xh}{k:Nat}(h:k<xs.length):VP xs (k+1)=VP xs k++phT xs k xs[k].phis:=by
 unfold VP;rw[List.range_succ,List.flatMap_append];simp[phB,h]
theorem Zhv{xs:List Xh}{t j:Nat}{ps:List Ph}(h:j<ps.length):phT xs t (ps.take (j+1))=phT xs t (ps.take j)++(Ya xs xs.length t).zip (Xw ps[j].args):=by
 unfold phT;rw[Xq _ _ h,List.flatMap_append];simp
theorem ZbY(V:Nat)(a:Option Addr)(n c:Nat)(xs:List Xh)(L B:Nat)(w:World)(ha:Hid (Xk w L B a xs))(hx:Hid (n=xs.length))(hB:B<=w.heap.size)(ho:Hid (Jd V xs)) :
 Calls Tryz.prog 106 #[.agg #[.int .i64 (V:Int),.slice a n c]] w fun e w'=>∃G gs Ws,e=.returned (.slice (some ⟨G,0,none⟩) n n)/\w.heap.size<=G/\Below w.heap.size w w'/\XB w' G n ((V+63) / 64) gs (fun _=>(V+63) / 64) Ws/\(∀i,i<n->w.heap.size<=gs i)/\XX Ws/\∀b,b<n->∀v,Xg (Ws b) v=true↔(b,v)∈VP xs n:=by
 have hn:n<=1000:=by have:=hx.out;have:=ho.okf.n2;omega
 have hV:=ho.vle;have HNS:=Xa (fun W=>K6 n V W hn oM);have HPR:Hid (∀W,Below w.heap.size w W->_):=Xa (fun W (hW:Below w.heap.size w W)=>UL (V:Int) a n c xs L B W (Xa (ha.keep (hW.mono hB))) hx oM (by have:=hW.size;omega) (Xa (by rw[hx.out];exact ho.okf.ok)));have hK:(V+63) / 64<=32:=oM;have hVK:V<=64*((V+63) / 64):=oM;generalize (V+63) / 64=K at *
 go_enter Tryz.func106,Tryz.ntmps106
 go_wp2_with fail
 refine(HNS.out _).mono ?_;rintro e w1 ⟨G,gs,rfl,hG,hb1,hs1,hgs⟩;have HBA:Hid (Below w.heap.size w (w.alloc (.cells #[.int .i64 (V:Int),.slice a n c] 33))):=Xa (Xb (Below.refl _ _) _);have q0:=(hb1.cell (p:=⟨w.heap.size,0,none⟩) (by show w.heap.size<_;simp)).trans (by simp[go_sem]:(w.alloc (.cells #[.int .i64 (V:Int),.slice a n c] 33)).cell? ⟨w.heap.size,0,none⟩=some (.int .i64 (V:Int)));have q1:=(hb1.cell (p:=⟨w.heap.size,1,none⟩) (by show w.heap.size<_;simp)).trans (by simp[go_sem]:(w.alloc (.cells #[.int .i64 (V:Int),.slice a n c] 33)).cell? ⟨w.heap.size,1,none⟩=some (.slice a n c));have HB1:Hid (Below w.heap.size w w1):=Xa (Xd HBA.out hb1);have HS1:=Xa hs1;have hG1:w.heap.size<G:=by simp at hG;omega
 have HGS:Hid (∀i,i<n->w.heap.size<gs i/\gs i<w1.heap.size):=Xa (fun i hi=>⟨by have:=hgs i hi;simp at this;omega,(hs1.set i hi).lt⟩);have hGl:G<w1.heap.size:=hs1.row.lt;have hz1:=HB1.size;have hzw:w.heap.size<w1.heap.size:=oM;have HP1:=Xa (HPR.out w1 HB1.out);clear hb1 hs1 hgs hG HNS HPR HBA
 go_wp2_with fail
 refine HP1.mono ?_;rintro e w2 ⟨U,rfl,hb2,hr2⟩;have HB2:Hid (Below w.heap.size w w2):=Xa (Xd HB1.out hb2);have HPS:Hid (XM w2 (w1.heap.size+1) w2.heap.size (some ⟨w1.heap.size+1,0,none⟩) ((List.range n).map fun i:Nat=>predsFrom xs 0 (i:Int))):=Xa hr2.ints;have HI2:Hid (PuE w2 w2 G n K gs []):=Xa ⟨_,HS1.keep hb2,fun _=>fun _=>dC,FrS.refl _ _ _,fun b _ v=>by simp[KW]⟩;have q1':=(hb2.cell (p:=⟨w.heap.size,1,none⟩) hzw).trans q1;have hz2:=hb2.size;clear hb2 hr2 HP1 HS1 q0 q1 HB1;have HA2:Hid (Xk w2 L B a xs):=Xa (ha.keep (HB2.mono hB))
 go_wp2_with fail
 go_loopw [22] (fun i wr=>∃k:Nat,k<=n/\i=.int .i64 k/\Hid (PuE w2 wr G n K gs (VP xs k))) (fun i _=>n-(intOf i).toNat)
 case atStart=>exact⟨0,Nat.zero_le _,rfl,HI2⟩
 case round =>
  obtain⟨k,hk,rfl,HI⟩:=hrel;by_cases hlt:k<n
  ·have hkx:k<xs.length:=by have:=hx.out;omega
   obtain⟨b,o,rfl,hbB,hc⟩:=HA2.out k hkx;have hfr:FrS w2 wr n gs:=HI.elim (fun _ h=>h.fr);have HSm:Hid (Xv L B w2 wr):=Xa (fun i h1 h2=>hfr.block i oM (fun j hj e=>by have:=HGS.out j hj;omega));obtain⟨pa,pc,ia,ic,e0,e1,⟨e2,e3,e4,e5⟩,hph,_⟩:=hc.keepS HSm.out (HSm.out b hbB.1 hbB.2);have HPH:=Xa hph;have HNX:=Xa (Zha (xs:=xs) hkx);have HPA:=Xa (ho.pha k hkx);have HPD:Hid (predsFrom xs 0 (k:Int)=Xs (Ya xs xs.length k)):=Xa (Ti (fun x hx t ht=>(ho.okf.tgt x hx t ht).1) k);have hpl:=(ho.lens xs[k] (List.getElem_mem hkx)).2;clear hc hph hfr;generalize xs[k]=X at *
   go_wp2_with fail
   have HIa:Hid (PuE w2 (wr.alloc (.cells #[.slice pa X.phis.length pc,.slice ia X.instrs.length ic,.int .i64 X.term.kind,.int .i64 X.term.a,.int .i64 X.term.to,.int .i64 X.term.els] 50)) G n K gs (VP xs k)):=Xa (HI.below (Xb (Below.refl _ _) _));have HPHw:Hid (Yp w2 L B pa X.phis):=Xa (HPH.keepS (fun i h1 h2=>(HSm.out i h1 h2).symm));clear HPH HSm e0 e1 e2 e3 e4 e5 HI;generalize wr=wo at *
   go_loopw [30] (fun i wr=>∃j:Nat,j<=X.phis.length/\i=.int .i64 j/\Hid (PuE w2 wr G n K gs (VP xs k++phT xs k (X.phis.take j)))) (fun i _=>X.phis.length-(intOf i).toNat)
   case atStart=>exact⟨0,Nat.zero_le _,rfl,Xa (by rw[show VP xs k++phT xs k (X.phis.take 0)=VP xs k by simp[phT]];exact HIa.out)⟩
   case round =>
    obtain⟨j,hj,rfl,HI⟩:=hrel;by_cases hlj:j<X.phis.length
    ·have hfr:FrS w2 wr n gs:=HI.elim (fun _ h=>h.fr)
     have HSm:Hid (Xv L B w2 wr):=Xa (fun i h1 h2=>hfr.block i oM (fun j hj e=>by have:=HGS.out j hj;omega));obtain⟨b2,o2,rfl,hb2B,ap,cp,f0,f1,hargs⟩:=(HPHw.keepS HSm.out) j hlj;have HAR:Hid (Xf w2 L B ap X.phis[j].args):=Xa (hargs.keepS (fun i h1 h2=>(HSm.out i h1 h2).symm));have HTX:=Xa (Zhv (xs:=xs) (t:=k) hlj);obtain⟨hal,hav⟩:=HPA.out X.phis[j] (List.getElem_mem hlj);have HAV:=Xa hav;clear hfr hargs hav;generalize X.phis[j]=ph at *;have hpn:(Ya xs xs.length k).length<=n:=by have:=ZfU (xs:=xs) (n:=xs.length) (b:=k);have:=hx.out;omega
     have hal2:ph.args.length=(Ya xs xs.length k).length:=by rw[hal,HPD.out];simp[Xs]
     have HAL:=Xa hal2;have halb:ph.args.length<=1000:=oM;clear hal hal2
     go_wp2_with fail
     have HIb:Hid (PuE w2 (wr.alloc (.cells #[.int .i64 ph.dst,.slice ap ph.args.length cp] 83)) G n K gs (VP xs k++phT xs k (X.phis.take j))):=Xa (HI.below (Xb (Below.refl _ _) _));clear HI f0 f1 HSm;generalize wr=wo2 at *
     go_loopw [37] (fun i wr=>∃q:Nat,q<=ph.args.length/\i=.int .i64 q/\Hid (PuE w2 wr G n K gs (VP xs k++phT xs k (X.phis.take j)++((Ya xs xs.length k).zip (Xw ph.args)).take q))) (fun i _=>ph.args.length-(intOf i).toNat)
     case atStart=>exact⟨0,Nat.zero_le _,rfl,Xa (by rw[List.take_zero,List.append_nil];exact HIb.out)⟩
     case round =>
      obtain⟨q,hq,rfl,HI⟩:=hrel;by_cases hlq:q<ph.args.length
      ·obtain⟨Ws,hW⟩:=HI.out
       have hfr:=hW.fr;obtain⟨b3,o3,rfl,hb3,r0⟩:=HAR.out q hlq;have r0':=(Xc (hfr.block b3 oM (fun i hi e=>by have:=HGS.out i hi;omega))).trans r0;obtain⟨b4,o4,e4,hb4,a4,c4,r1,hi4⟩:=HPS.out k (by simpa using hlt);injection e4 with e4;injection e4 with e5 e6;subst e5;subst e6;have r1':=(Xc (hfr.block (w1.heap.size+1) hb4.2 (fun i hi e=>by have:=HGS.out i hi;omega))).trans r1;simp only[List.getElem_map,List.getElem_range,HPD.out]at r1' hi4;have hqp:q<(Ya xs xs.length k).length:=by have:=HAL.out;omega
       obtain⟨b5,o5,e7,hb5,r2⟩:=hi4 q (by simpa [Xs]using hqp);subst e7;have r2':=(Xc (hfr.block b5 hb5.2 (fun i hi e=>by have:=HGS.out i hi;omega))).trans r2;have hpq:(Xs (Ya xs xs.length k))[q]'(by simpa [Xs]using hqp)=(((Ya xs xs.length k)[q]:Nat):Int):=by simp[Xs]
       rw[hpq]at r2';have hpl:(Ya xs xs.length k)[q]<n:=by have:=(Za2.1 (List.getElem_mem hqp)).1;have:=hx.out;omega
       have hvq:=HAV.out ph.args[q] (List.getElem_mem hlq);have HZ:Hid (((Ya xs xs.length k).zip (Xw ph.args)).take (q+1)=((Ya xs xs.length k).zip (Xw ph.args)).take q++[((Ya xs xs.length k)[q],ph.args[q].toNat)]):=Xa (by
        rw[Xq _ _ (by simp[Xw];omega)];simp[Xw])
       obtain⟨vv,hvv⟩:=Int.eq_ofNat_of_zero_le hvq.1;rw[hvv]at r0' hvq HZ;simp only[Int.toNat_natCast]at HZ;have hln4:(Xs (Ya xs xs.length k)).length=(Ya xs xs.length k).length:=by simp[Xs]
       rw[hln4,Nat.zero_add]at r1';have hpe:=HAL.out;rw[<-hpe]at r1';have HW:=Xa hW;clear hW hfr r0 r1 r2 hi4 hpq hvv HI hpe hln4;generalize (Ya xs xs.length k)[q]=p at *;have hG0:=HW.sets.row.cell hpl;have hvl:vv<V:=oM;clear hvq
       go_wp2_with fail
       have HWa:=Xa (HW.below (Xb (Below.refl _ _) (.cells #[.int .i64 (vv:Int)] 98)));have hgl:gs p<wr.heap.size:=(HW.sets.set p hpl).lt;have hza:wr.heap.size+1<=(wr.alloc (.cells #[.int .i64 (vv:Int)] 98)).heap.size:=sP;have HIO:Hid (Xf (wr.alloc (.cells #[.int .i64 (vv:Int)] 98)) wr.heap.size (wr.heap.size+1) (some ⟨wr.heap.size,0,none⟩) ([vv].map Int.ofNat)):=Xa (Zdj wr vv _);have HTV:∀t∈[vv],t<64*K:=fun t ht=>by
        have e:t=vv:=by simpa using ht
        omega
       refine(Zw (gs p) K K 1 1 (Ws p) _ [vv] wr.heap.size (wr.heap.size+1) _ HIO (Xa rfl) oM (Xa HTV) oM (Xa (HW.wd p)) (Xa (HWa.sets.set p hpl)) hza oM).mono ?_;rintro e w5 ⟨rfl,hg5,hr5⟩;have HW5:=Xa (HWa.add hpl hg5 hr5);clear hg5 hr5 HWa HIO hG0 r0' r1' r2'
       go_wp2_with fail
       exact⟨⟨q+1,oM,gM,Xa ⟨_,by rw[HZ.out,<-List.append_assoc];exact HW5.out⟩⟩,by simp[intOf];omega⟩
      ·have hqe:q=ph.args.length:=oM
       have HZ:Hid (((Ya xs xs.length k).zip (Xw ph.args)).take q=(Ya xs xs.length k).zip (Xw ph.args)):=Xa (List.take_of_length_le (by simp[Xw];omega));rw[HZ.out]at HI;clear hqe
       go_wp2_with fail
       exact⟨⟨j+1,oM,gM,Xa (by rw[HTX.out,<-List.append_assoc];exact HI.out)⟩,by simp[intOf];omega⟩
    ·have hje:j=X.phis.length:=oM
     have HZ:Hid (X.phis.take j=X.phis):=Xa (List.take_of_length_le oM);rw[HZ.out]at HI;clear hje
     go_wp2_with fail
     exact⟨⟨k+1,oM,gM,Xa (by rw[HNX.out];exact HI.out)⟩,by simp[intOf];omega⟩
  ·have hke:k=n:=oM
   subst hke;go_wp2
   go_ret
   obtain⟨Ws,hW⟩:=HI.out;refine⟨G,gs,Ws,rfl,oM,⟨hW.fr.os.trans HB2.os,hW.fr.tape.trans HB2.tape,hW.fr.output.trans HB2.output,Nat.le_trans HB2.size hW.fr.size,fun i hi=>(hW.fr.block i (by have:=HB2.size;omega) (fun j hj e=>by have:=HGS.out j hj;omega)).trans (HB2.block i hi)⟩,hW.sets,fun i hi=>by have:=HGS.out i hi;omega,hW.wd,hW.has⟩
end Go.Proofs.YtlmgmkmomaileaaGreatDoor
