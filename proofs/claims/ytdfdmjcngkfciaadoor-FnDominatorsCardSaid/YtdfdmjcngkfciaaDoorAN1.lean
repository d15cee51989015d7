import Derived.Test.YtdfdmjcngkfciaaDoorPO1
import Derived.Deep.RegionHeld3
namespace Go.Proofs.YtdfdmjcngkfciaaDoor
open Go.RowKit
set_option maxHeartbeats 2000000 in
set_option maxRecDepth 100000 in
theorem analyzeI_any (v:Int) (a:Option Addr) (n c:Nat) (xs:List Blk) (L B:Nat) (w:World) (ha:Hid (BlksAt w L B a xs)) (hx:Hid (n=xs.length)) (hs:Hid (xs.length+blksTot xs≤1048576)) (hB:B≤w.heap.size) (hO:Hid (OpTab w)) (hT:Hid (TerTab w)) (hv:Hid (validI ⟨v,xs⟩=true)) :
  Calls Tryd.prog 5 #[.agg #[.int .i64 v,.slice a n c]] w fun e w'=>∃U P g1 c1 g2 c2 g3 g4 c4,e=.returned (.agg #[.slice (some ⟨g1,0,none⟩) n c1,.slice (some ⟨g2,0,none⟩) n c2,.slice (some ⟨g3,0,none⟩) n n,.slice (some ⟨g4,0,none⟩) (preP P n 0).length c4])∧Below w.heap.size w w'∧IsIdm (tgN xs) n P∧FlowOwn w' w.heap.size n U (fun i:Nat=>predsFrom xs 0 (i:Int)) (fun z=>hasN (seaP xs).1 z) P (preP P n 0) g1 c1 g2 c2 g3 g4 c4:=by
 have HOK:=hide (ok_of_valid hv.out)
 have hn2:n≤1000:=by have:=HOK.out.n2;have:=hx.out;omega
 have hn1:1≤n:=by have:=HOK.out.n1;have:=hx.out;omega
 have HVF:=hide (fun W (hb:Below w.heap.size w W)=>validFuncI_any v a n c xs L B W (hide (ha.out.keep (hb.mono hB))) hx hs (by have:=hb.size;omega) (hide (hO.out.keep hb)) (hide (hT.out.keep hb)))
 rw [hv.out] at HVF
 have HPR:=hide (fun W (hb:Below w.heap.size w W)=>predecessors_sep v a n c xs L B W (hide (ha.out.keep (hb.mono hB))) hx (by omega) (by have:=hb.size;omega) (hide (by rw [hx.out];exact HOK.out.ok)))
 go_enter Tryd.func5,Tryd.ntmps5
 go_wp2_with fail
 refine (HVF.out _ (balloc (balloc (Below.refl _ _) _) _)).mono ?_
 rintro e w1 ⟨rfl,hb1⟩
 obtain ⟨hc1,hf1⟩:=bcell hb1
 have k0:w1.cell? ⟨w.heap.size,0,none⟩=some (.int .i64 v):=by rw [hc1 _ _ (by simp;omega)];simp [go_sem]
 have k1:w1.cell? ⟨w.heap.size,1,none⟩=some (.slice a n c):=by rw [hc1 _ _ (by simp;omega)];simp [go_sem]
 have HB1:=hide (bnext (balloc (balloc (Below.refl w.heap.size w) _) _) hb1)
 have hz1:w.heap.size+2≤w1.heap.size:=by have:=hb1.size;simp at this;omega
 have HR1:Hid (w1.rowIs (w.heap.size+1) 31 4 (fun _=>.slice none 0 0)):=hide (by
  have h:=World.rowIs_alloc (w.alloc (.cells #[.int .i64 v,.slice a n c] 25)) #[.slice none 0 0,.slice none 0 0,.slice none 0 0,.slice none 0 0] 31 (fun _=>.slice none 0 0) (fun i hi=>by
   match i,hi with
   | 0,_=>rfl
   | 1,_=>rfl
   | 2,_=>rfl
   | 3,_=>rfl)
  rw [World.size_alloc] at h
  exact h.of_block (hb1.block _ (by simp)))
 clear hc1 hf1 hb1 HVF
 go_wp2_with fail
 refine (HPR.out w1 HB1.out).mono ?_
 rintro e w2 ⟨U,rfl,hb2,hU⟩
 have K0:=hide k0
 have K1:=hide k1
 have HB2:=hide (bnext HB1.out hb2)
 have HU:=hide hU
 have hz2:=hb2.size
 have HR2:=hide (HR1.out.of_block (hb2.block _ HR1.out.lt))
 have q0:=(cTr hb2 (by omega)).trans k0
 have q1:=(cTr hb2 (by omega)).trans k1
 clear k0 k1 K0 K1 HPR hU
 clear hb2
 go_wp2_with fail
 refine (newSearch_any v a n c w2 hn2).mono ?_
 rintro e w3 ⟨bS,gS,rfl,hbS,hgS,hb3,hs3⟩
 have HB3:=hide hb3
 have HS3:=hide hs3
 have hz3:=hb3.size
 have hKb:(n+63) / 64≤100:=by omega
 have hKn:n≤64*((n+63) / 64):=by omega
 generalize (n+63) / 64=KK at *
 have HC:Hid (w2.cell? ⟨w.heap.size,0,none⟩=some (.int .i64 v)∧w2.cell? ⟨w.heap.size,1,none⟩=some (.slice a n c)):=hide ⟨q0,q1⟩
 clear q0 q1 hb3 hs3
 have HZ3:Hid (BlksAt w3 L B a xs):=hide (ha.out.keep ((bnext HB2.out HB3.out).mono hB))
 have HVI:=hide (visit_any bS gS w3.heap.size KK n c a xs L B hx hn2 hKn hKb (by omega) (by omega) (by omega) (hide (by rw [hx.out];exact HOK.out.tgt)) xs.length 0 (fun _=>0) (.slice none 0 0) [] w3 HS3 HZ3 hn1 (hide (by rw [hx.out];exact unseen_le _ _)) (hide zero_wd) (by simp only [List.length_nil,Nat.zero_add];exact unseen_le _ _))
 go_wp2_with fail
 refine HVI.out.mono ?_
 rintro e w4 ⟨rfl,v4,hf4,hs4⟩
 have HS4:Hid (SeaAt w4 bS gS w3.heap.size KK a n c (seaP xs).1 v4 (seaP xs).2):=hide (by unfold seaP;exact hs4)
 clear hs4
 have hs4:=HS4.out
 have hbk4:∀k,k<w2.heap.size→w4.heap[k]?=w2.heap[k]?:=fun k hk=>(hf4.block k (by omega) (by omega) (by omega) (fun e=>by cases e)).trans (HB3.out.block k hk)
 have HB4:Hid (Below w2.heap.size w2 w4):=hide ⟨hf4.os.trans HB3.out.os,hf4.tape.trans HB3.out.tape,hf4.output.trans HB3.out.output,by have:=hf4.size;omega,hbk4⟩
 have hql:0<(seaP xs).2.length∧(seaP xs).2.length≤1000:=by
  have h1:=HOK.out.ord_len
  have h2:(ordP xs).length=(seaP xs).2.length:=by simp [ordP]
  have:=HOK.out.n2
  omega
 obtain ⟨gL,cL,rfl,⟨hgL1,hgL2⟩,hcL⟩:=own_some' hs4.own hql.1
 have HON:Hid (natV (seaP xs).2=(natI (seaP xs).2).map (Value.int .i64)):=hide (by simp [natV,natI])
 have HOR:Hid ((natI (seaP xs).2).reverse=natI (ordP xs)):=hide (by simp [ordP,natI])
 have HOL:Hid ((seaP xs).2.length=(ordP xs).length):=hide (by simp [ordP])
 have HO4:Hid (w4.ownsRow w3.heap.size 2 1 (.slice (some ⟨gL,0,none⟩) (seaP xs).2.length cL) (seaP xs).2.length ((natI (seaP xs).2).map (Value.int .i64))):=hide (by rw [←HON.out];exact hs4.own)
 have HQN:Hid ((seaP xs).2.length=(natI (seaP xs).2).length):=hide (by simp [natI])
 have c2:=hs4.c2
 have c1:=hs4.c1
 have HGR:=hide hs4.row
 have hne4:=hs4.ne
 have hlb:=hs4.lb
 have hlg:=hs4.lg
 generalize (seaP xs).2.length=q at *
 clear hf4 hs4 HS4 HVI HS3 HZ3 hbk4
 go_wp2_with fail
 refine (reverse_any gL q cL w3.heap.size (natI (seaP xs).2) w4 (by omega) HQN HO4).mono ?_
 rintro e w5 ⟨rfl,hg5,ho5⟩
 rw [HOR.out] at ho5
 have HO5:=hide ho5
 have HB5:Hid (Below w2.heap.size w2 w5):=hide (HB4.out.grown hg5 HB4.out.size (fun k e=>by cases e;omega))
 have c2':=(World.cell?_of_block (a:=⟨bS,2,none⟩) (hg5.block bS (by have:=HB4.out.size;omega) (fun e=>by injection e with e;omega))).trans c2
 have c1':=(World.cell?_of_block (a:=⟨bS,1,none⟩) (hg5.block bS (by have:=HB4.out.size;omega) (fun e=>by injection e with e;omega))).trans c1
 have HGR5:=hide (HGR.out.of_block (hg5.block gS (by have:=HGR.out.lt;omega) (fun e=>by injection e with e;omega)))
 have hz5:=hg5.size
 clear hg5 ho5 c1 c2 HGR HO4 HQN
 go_wp2_with fail
 have HSL:Hid (((List.range n).map fun i:Nat=>predsFrom xs 0 (i:Int))=((List.range n).map (predN xs n)).map natI):=hide (by
  rw [List.map_map]
  apply List.map_congr_left
  intro b _
  rw [Function.comp,hx.out]
  exact preds_all (fun x hx t ht=>(HOK.out.tgt x hx t ht).1) b)
 have HSR:Hid (IntssAt w5 (w1.heap.size+1) w2.heap.size (some ⟨w1.heap.size+1,0,none⟩) (((List.range n).map (predN xs n)).map natI)):=hide (by rw [←HSL.out];exact HU.out.ints.keep HB5.out)
 have HOI:Hid (IntsAt w5 w3.heap.size w5.heap.size (some ⟨gL,0,none⟩) (natI (ordP xs))):=hide (by
  obtain ⟨a',c',hv',hi'⟩:=ints_owned HO5.out
  injection hv' with e1
  rw [e1];exact hi')
 have HNE:=hide (nearest_any (some ⟨w1.heap.size+1,0,none⟩) n n gL 0 q cL ((List.range n).map (predN xs n)) (ordP xs) w3.heap.size w5.heap.size (w1.heap.size+1) w2.heap.size w5 HSR (hide (by simp)) HOI HOL hn2 hn1 hql.2 hql.1 hcL (Nat.le_refl _) HB5.out.size (hide (by rw [hx.out];exact HOK.out.ord_len.2.2)) (hide (fun l hl=>by
  obtain ⟨b,_,rfl⟩:=List.mem_map.1 hl
  exact ⟨Nat.le_trans predN_len (by omega),fun t ht=>(predN_mem.1 ht).1⟩)))
 refine HNE.out.mono ?_
 rintro e w6 ⟨gN,Ws,rfl,hgN,hb6,hr6,hw6⟩
 have HID:Hid (IsIdm (tgN xs) n ((List.range n).map (nrF Ws (ordP xs) q))):=hide (by
  have h:=HOK.out.idm (Ws:=Ws) (by rw [←hx.out];exact hw6)
  rw [←HOL.out,←hx.out] at h
  exact h)
 have HRN:=hide hr6
 have HB6:=hide (HB5.out.trans (hb6.mono HB5.out.size))
 have hz6:=hb6.size
 have d1:=(hb6.cell (p:=⟨bS,1,none⟩) (by show bS<_;have:=HB4.out.size;omega)).trans c1'
 have HGR6:=hide (HGR5.out.of_block (hb6.block gS HGR5.out.lt))
 have hgSl:=HGR5.out.lt
 have hbSl:bS<w5.heap.size:=by omega
 have f0:=(cTr HB6.out (by omega)).trans HC.out.1
 have f1:=(cTr HB6.out (by omega)).trans HC.out.2
 have hlw:w.heap.size<w6.heap.size:=by omega
 have f1a:=fun o=>(World.cell?_alloc_lt w6 o ⟨w.heap.size,1,none⟩ hlw).trans f1
 clear hb6 hr6 hw6 c1' c2' HGR5 HNE HOI HSR HO5 HOR HON HB3
 go_wp2_with fail
 have HF0:Hid (FwI w6 (w6.alloc (.cells #[.slice none 0 0,.slice none 0 0,.slice (some ⟨gN,0,none⟩) n n,.slice none 0 0] 31)) w6.heap.size (.slice (some ⟨gN,0,none⟩) n n) (.slice none 0 0) U (fun z=>.bool (hasN (seaP xs).1 z)) 0 none 0 0 none 0):=hide
  ⟨by simp [go_sem],by simp [go_sem],by simp [go_sem],by simp [go_sem],fun q=>(World.rowIs_alloc w6 #[.slice none 0 0,.slice none 0 0,.slice (some ⟨gN,0,none⟩) n n,.slice none 0 0] 31 (fun i=>#[.slice none 0 0,.slice none 0 0,.slice (some ⟨gN,0,none⟩) n n,.slice none 0 0].getD i undef) (fun i hi=>by simp [Array.getElem?_eq_getElem hi])).frozen q,balloc (Below.refl _ _) _,by simp,rfl,World.ownsRow_nil _ _ _ _,World.ownsRow_nil _ _ _ _,Or.inl rfl⟩
 clear f0 f1 f1a
 go_loopw [32] (fun u wr=>∃(b:Nat) (p1:Option Addr) (c1:Nat) (p2:Option Addr) (c2:Nat),b≤n∧u=.int .i64 b∧Hid (FwI w6 wr w6.heap.size (.slice (some ⟨gN,0,none⟩) n n) (.slice none 0 0) U (fun z=>.bool (hasN (seaP xs).1 z)) b p1 c1 b p2 c2)) (fun u _=>n-(intOf u).toNat)
 case atStart=>exact ⟨0,none,0,none,0,Nat.zero_le _,rfl,HF0⟩
 case round =>
  clear HF0
  obtain ⟨b,p1,c1,p2,c2,hbn,rfl,HFb⟩:=hrel
  by_cases hlt:b<n
  ·have hwl:=HFb.out.lt
   have m0:=HFb.out.e0
   have mz:=HFb.out.thaw 0
   have mU:wr.cell? ⟨w1.heap.size+1,b,none⟩=some (U b):=((HFb.out.bel).cell (p:=⟨w1.heap.size+1,b,none⟩) (by show w1.heap.size+1<_;have:=HU.out.1.lt;have:=HB6.out.size;omega)).trans ((HB6.out.cell (p:=⟨w1.heap.size+1,b,none⟩) (by show w1.heap.size+1<_;exact HU.out.1.lt)).trans (HU.out.1.cell hlt))
   obtain ⟨ua,uc,hUb,_⟩:=ints_owned (HU.out.2.1 b hlt)
   have HUB:=hide hUb
   rw [hUb] at mU
   generalize (predsFrom xs 0 (b:Int)).length=ul at *
   clear hUb
   obtain ⟨i1,hi1,hy0,hy1,hy2⟩:=info_three Tryd.infoSetI
   go_wp2_with fail
   have hUl:w1.heap.size+1<w6.heap.size:=by have:=HU.out.1.lt;have:=HB6.out.size;omega
   have hUn:w1.heap.size+1≠w6.heap.size:=by omega
   have hbS6:bS<w6.heap.size:=by omega
   have hbSn:bS≠w6.heap.size:=by omega
   have HAS:=hide (fun W (h:Below w6.heap.size w6 W)=>has_blockNo gS KK b (seaP xs).1 W (hide (dfs_wd (tgN xs) xs.length 0 _ zero_wd)) (hide (HGR6.out.of_block (h.block gS (by omega)))) (by omega) (by omega))
   refine wp_region_held_drew (S:=(fun w'=>w'.cell? ⟨w1.heap.size+1,b,none⟩=some (.slice ua ul uc))) (by kernel_rfl) (by (try dsimp only);go_keep) (fun hHeld=>?_)
   refine tkH 0 rfl (v:=?_) ?_
   simp only [Act.put,xA,xB,xD,xE,xF]
   refine tkH 2 rfl (v:=?_) ?_
   simp only [Act.put,xA,xB,xC,xD,xE,xF]
   refine tkH 3 rfl (v:=?_) ?_
   simp only [Act.put,xA,xB,xC,xD,xE,xF]
   refine tkH 4 rfl (v:=?_) ?_
   simp only [Act.put,xA,xB,xC,xD,xE,xF]
   refine tkH 5 rfl (v:=?_) ?_
   simp only [Act.put,xA,xB,xC,xD,xE,xF]
   refine tkH 6 rfl (v:=?_) ?_
   simp only [Act.put,xA,xB,xC,xD,xE,xF]
   refine wpAnyH_ready (rs:=[1,7]) (by kernel_rfl) (by simp) ?_
   refine (AllReadyH.cons rfl (fun K hK=>?_) (AllReadyH.cons rfl (fun K hK=>?_) AllReadyH.nil))
   go_simp
   refine hK.out _ _ (by first | with_reducible exact hHeld | ((try dsimp only);go_keep)) (fun hHeld=>?_)
   clear hK
   try simp only [Act.put,xA,xB,xC,xD,xE,xF]
   refine wpAnyH_ready (rs:=[7]) (by kernel_rfl) (by simp) ?_
   refine AllReadyH.cons rfl (fun K hK=>?_) AllReadyH.nil
   go_simp
   refine hK.out _ _ (by first | with_reducible exact hHeld | ((try dsimp only);go_keep)) (fun hHeld=>?_)
   clear hK
   try simp only [Act.put,xA,xB,xC,xD,xE,xF]
   rotate_left
   go_simp
   refine hK.out _ _ (by first | with_reducible exact hHeld | ((try dsimp only);go_keep)) (fun hHeld=>?_)
   clear hK
   try simp only [Act.put,xA,xB,xC,xD,xE,xF]
   refine wpAnyH_ready (rs:=[1]) (by kernel_rfl) (by simp) ?_
   refine AllReadyH.cons rfl (fun K hK=>?_) AllReadyH.nil
   go_simp
   refine hK.out _ _ (by first | with_reducible exact hHeld | ((try dsimp only);go_keep)) (fun hHeld=>?_)
   clear hK
   try simp only [Act.put,xA,xB,xC,xD,xE,xF]
   all_goals (
    refine wpAnyH_ready (rs:=[8]) (by kernel_rfl) (by simp) ?_
    refine AllReadyH.cons rfl (fun K hK=>?_) AllReadyH.nil
    refine step_append_r rfl _ _ 27 rfl (w6.heap.size+1) 60 i1 (.agg #[.slice none 0 0]) 1 24 Tryd.underlying27 hi1 hy0 hy1 hy2 rfl (by decide) (.slice p1 b c1) b ((List.range b).map U) rfl ?s1 ⟨wr.heap.size,0,none⟩ 1 1 [.slice ua ul uc] rfl rfl ?s2 ?s3 ?s4 ?s5 ?s6 ?_
    case s1=>exact (own_drew HFb.out.o1).alloc _
    case s2=>exact one_news _ _ _
    case s3=>intro u hu;simp at hu;subst hu;rfl
    case s4=>unfold maxLen;omega
    case s5=>omega
    case s6=>simp;omega
    intro v8 w8 hown8 hg8 _ hat8
    obtain ⟨g8,c8,rfl,hg8r,_⟩:=own_some' hown8 (by omega)
    obtain ⟨hF8,ce8,fe8,hbl8⟩:=(HFb.out.below (Below.refl wr.heap.size wr).drew).app1 hg8 (by rw [HUB.out];exact hown8) (by simpa using hat8)
    have z0:w8.cell? ⟨w6.heap.size,0,none⟩=some (.slice p1 b c1):=(ce8 0).trans HFb.out.e0
    have zf:=fe8 0
    have zU:w8.cell? ⟨w1.heap.size+1,b,none⟩=some (.slice ua ul uc):=(hbl8.cell (p:=⟨w1.heap.size+1,b,none⟩) hUl).trans mU
    have HF8:=hide hF8
    clear hown8 hg8 hat8 hF8 ce8 fe8 hbl8
    refine hK.out _ _ zU (fun hHeld=>?_)
    clear hK
    try simp only [Act.put,xA,xB,xC,xD,xE,xF]
    refine tkH 9 rfl (v:=?_) ?_
    simp only [Act.put,xA,xB,xC,xD,xE,xF]
    refine wpAnyH_ready (rs:=[10]) (by kernel_rfl) (by simp) ?_
    refine AllReadyH.cons rfl (fun K hK=>?_) AllReadyH.nil
    go_simp
    refine hK.out _ _ ((cell_of (Below.heap_setCell _ _ _ _ hUn)).trans zU) (fun hHeld=>?_)
    clear hK
    try simp only [Act.put,xA,xB,xC,xD,xE,xF]
    refine wpAnyH_done (by kernel_rfl) ?_ _
    clear hHeld z0 zf zU
    generalize w8.setCell ⟨w6.heap.size,0,none⟩ (.slice (some ⟨g8,0,none⟩) (b+1) c8)=w9 at *
    have HF9d:=hide (HF8.out.below (Below.refl w9.heap.size w9).drew)
    have x1:=HF8.out.e1
    have xl:=HF8.out.lt
    have xS:=(HF8.out.bel.cell (p:=⟨bS,1,none⟩) hbS6).trans d1
    obtain ⟨i2,hi2,hv0,hv1,hv2⟩:=info_three Tryd.infoBo
    clear m0 mz mU HFb
    go_wp2_with fail
    refine wp_region_held_drew (S:=(fun w'=>w'.cell? ⟨bS,1,none⟩=some (.slice (some ⟨gS,0,none⟩) KK KK))) (by kernel_rfl) (by (try dsimp only);go_keep) (fun hHeld=>?_)
    refine tkH 0 rfl (v:=?_) ?_
    simp only [Act.put,xA,xB,xD,xE,xF]
    refine tkH 2 rfl (v:=?_) ?_
    simp only [Act.put,xA,xB,xC,xD,xE,xF]
    refine tkH 3 rfl (v:=?_) ?_
    simp only [Act.put,xA,xB,xC,xD,xE,xF]
    refine tkH 4 rfl (v:=?_) ?_
    simp only [Act.put,xA,xB,xC,xD,xE,xF]
    refine tkH 5 rfl (v:=?_) ?_
    simp only [Act.put,xA,xB,xC,xD,xE,xF]
    refine tkH 6 rfl (v:=?_) ?_
    simp only [Act.put,xA,xB,xC,xD,xE,xF]
    refine wpAnyH_ready (rs:=[1,7]) (by kernel_rfl) (by simp) ?_
    refine (AllReadyH.cons rfl (fun K hK=>?_) (AllReadyH.cons rfl (fun K hK=>?_) AllReadyH.nil))
    go_simp
    refine hK.out _ _ (by first | with_reducible exact hHeld | ((try dsimp only);go_keep)) (fun hHeld=>?_)
    clear hK
    try simp only [Act.put,xA,xB,xC,xD,xE,xF]
    refine wpAnyH_ready (rs:=[7]) (by kernel_rfl) (by simp) ?_
    refine AllReadyH.cons rfl (fun K hK=>?_) AllReadyH.nil
    go_simp
    go_at_call 18
    refine (HAS.out _ HF9d.out.bel).mono ?_
    rintro e w10 ⟨rfl,hb10⟩
    have HF10:=hide (HF9d.out.below hb10)
    have y1:=HF10.out.e1
    have yl:=HF10.out.lt
    have yS:=(HF10.out.bel.cell (p:=⟨bS,1,none⟩) hbS6).trans d1
    clear hb10
    refine hK.out _ _ yS (fun hHeld=>?_)
    clear hK
    try simp only [Act.put,xA,xB,xC,xD,xE,xF]
    refine wpAnyH_ready (rs:=[8]) (by kernel_rfl) (by simp) ?_
    refine AllReadyH.cons rfl (fun K hK=>?_) AllReadyH.nil
    go_simp
    refine hK.out _ _ (by first | with_reducible exact hHeld | ((try dsimp only);go_keep)) (fun hHeld=>?_)
    clear hK
    try simp only [Act.put,xA,xB,xC,xD,xE,xF]
    rotate_left
    go_simp
    go_at_call 18
    refine (HAS.out _ HF9d.out.bel).mono ?_
    rintro e w10 ⟨rfl,hb10⟩
    have HF10:=hide (HF9d.out.below hb10)
    have y1:=HF10.out.e1
    have yl:=HF10.out.lt
    have yS:=(HF10.out.bel.cell (p:=⟨bS,1,none⟩) hbS6).trans d1
    clear hb10
    refine hK.out _ _ yS (fun hHeld=>?_)
    clear hK
    try simp only [Act.put,xA,xB,xC,xD,xE,xF]
    refine wpAnyH_ready (rs:=[1,8]) (by kernel_rfl) (by simp) ?_
    refine (AllReadyH.cons rfl (fun K hK=>?_) (AllReadyH.cons rfl (fun K hK=>?_) AllReadyH.nil))
    go_simp
    refine hK.out _ _ (by first | with_reducible exact hHeld | ((try dsimp only);go_keep)) (fun hHeld=>?_)
    clear hK
    try simp only [Act.put,xA,xB,xC,xD,xE,xF]
    refine wpAnyH_ready (rs:=[8]) (by kernel_rfl) (by simp) ?_
    refine AllReadyH.cons rfl (fun K hK=>?_) AllReadyH.nil
    go_simp
    refine hK.out _ _ (by first | with_reducible exact hHeld | ((try dsimp only);go_keep)) (fun hHeld=>?_)
    clear hK
    try simp only [Act.put,xA,xB,xC,xD,xE,xF]
    rotate_left
    go_simp
    refine hK.out _ _ (by first | with_reducible exact hHeld | ((try dsimp only);go_keep)) (fun hHeld=>?_)
    clear hK
    try simp only [Act.put,xA,xB,xC,xD,xE,xF]
    refine wpAnyH_ready (rs:=[1]) (by kernel_rfl) (by simp) ?_
    refine AllReadyH.cons rfl (fun K hK=>?_) AllReadyH.nil
    go_simp
    refine hK.out _ _ (by first | with_reducible exact hHeld | ((try dsimp only);go_keep)) (fun hHeld=>?_)
    clear hK
    try simp only [Act.put,xA,xB,xC,xD,xE,xF]
    all_goals (
     refine wpAnyH_ready (rs:=[9]) (by kernel_rfl) (by simp) ?_
     refine AllReadyH.cons rfl (fun K hK=>?_) AllReadyH.nil
     refine step_append_r rfl _ _ 28 rfl (w6.heap.size+1) 4 i2 (.bool false) 1 1 Tryd.underlying28 hi2 hv0 hv1 hv2 rfl (by decide) (.slice p2 b c2) b ((List.range b).map fun z=>.bool (hasN (seaP xs).1 z)) rfl ?s1 ⟨w10.heap.size,0,none⟩ 1 1 [.bool (hasN (seaP xs).1 b)] rfl rfl ?s2 ?s3 ?s4 ?s5 ?s6 ?_
     case s1=>exact HF10.out.o2.alloc _
     case s2=>exact one_news _ _ _
     case s3=>intro u hu;simp at hu;subst hu;rfl
     case s4=>unfold maxLen;omega
     case s5=>omega
     case s6=>simp;omega
     intro v11 w11 hown11 hg11 _ hat11
     obtain ⟨g11,c11,rfl,hg11r,_⟩:=own_some' hown11 (by omega)
     obtain ⟨hF11,ce11,fe11,hbl11⟩:=HF10.out.app2 hg11 hown11 (by simpa using hat11)
     have z0:w11.cell? ⟨w6.heap.size,1,none⟩=some (.slice p2 b c2):=(ce11 1).trans HF10.out.e1
     have zf:=fe11 1
     have zS:w11.cell? ⟨bS,1,none⟩=some (.slice (some ⟨gS,0,none⟩) KK KK):=(hbl11.cell (p:=⟨bS,1,none⟩) hbS6).trans yS
     have HF11:=hide hF11
     clear hown11 hg11 hat11 hF11 ce11 fe11 hbl11
     refine hK.out _ _ zS (fun hHeld=>?_)
     clear hK
     try simp only [Act.put,xA,xB,xC,xD,xE,xF]
     refine tkH 10 rfl (v:=?_) ?_
     simp only [Act.put,xA,xB,xC,xD,xE,xF]
     refine wpAnyH_ready (rs:=[11]) (by kernel_rfl) (by simp) ?_
     refine AllReadyH.cons rfl (fun K hK=>?_) AllReadyH.nil
     go_simp
     refine hK.out _ _ ((cell_of (Below.heap_setCell _ _ _ _ hbSn)).trans zS) (fun hHeld=>?_)
     clear hK
     try simp only [Act.put,xA,xB,xC,xD,xE,xF]
     refine wpAnyH_done (by kernel_rfl) ?_ _
     clear hHeld z0 zf zS
     generalize w11.setCell ⟨w6.heap.size,1,none⟩ (.slice (some ⟨g11,0,none⟩) (b+1) c11)=w12 at *
     go_wp2_with fail
     exact ⟨⟨b+1,_,c8,_,c11,by omega,by go_num,HF11⟩,by simp [intOf];omega⟩))
  ·have hbe:n=b:=by omega
   subst hbe
   have m2:=HFb.out.e2
   have ml:=HFb.out.lt
   obtain ⟨P,hP⟩:∃P,P=(List.range n).map (nrF Ws (ordP xs) q):=⟨_,rfl⟩
   rw [←hP] at HID
   have HPL:Hid (n=P.length):=hide HID.out.len.symm
   have HPG:Hid (∀z,z<n→P.getD z 0=nrF Ws (ordP xs) q z):=hide (fun z hz=>by rw [hP];simp [hz])
   have HRN2:Hid (wr.rowIs gN 2 n (fun z=>.int .i64 (P.getD z 0))):=hide ((HRN.out.of_block (HFb.out.bel.block gN HRN.out.lt)).congr (fun z hz=>by rw [HPG.out z hz]))
   have hgN6:=HRN.out.lt
   have HIP:Hid (IntsAt wr gN (gN+1) (some ⟨gN,0,none⟩) P):=hide (fun i hi=>by
    have hin:i<n:=by have:=HPL.out;omega
    refine ⟨gN,0,rfl,⟨Nat.le_refl _,Nat.lt_succ_self _⟩,?_⟩
    rw [Nat.zero_add,HRN2.out.cell hin]
    simp [hi])
   have HRE:Hid (∀x,Re (tgN xs) x→x<n):=hide (by rw [hx.out];exact HOK.out.re)
   have HPB:Hid (∀p∈P,p<n):=hide (fun p hp=>(isIdm_lt HID.out HRE.out p hp).2)
   have HCH:=hide (childrenOf_any (some ⟨gN,0,none⟩) n n P gN (gN+1) wr HIP HPL hn2 (by omega) HPB)
   clear hP
   go_wp2_with fail
   refine HCH.out.mono ?_
   rintro e w7 ⟨ca,cc,rfl,hb7,hch⟩
   have HPO:=hide (preorder_any ca n cc P wr.heap.size w7.heap.size w7.heap.size HPL hn2 (Nat.le_refl _) (fun b=>(domL (tgN xs) n b).length) (hide (fun b c hc=>dn_less HID.out HRE.out hc)) (hide (fun b=>dn_le n b)) n 0 (.slice none 0 0) [] w7 (hide hch) (hide (World.ownsRow_nil _ _ _ _)) (Nat.le_refl _) hn1 (hide (by omega)) (by have:=pre_len HID.out HRE.out n 0 Re.root;simp only [List.length_nil];omega))
   have HB7:=hide hb7
   have HF7:=hide (HFb.out.below hb7)
   have hz7:=hb7.size
   have m3:=HF7.out.e3
   have mz:=HF7.out.thaw 3
   clear hb7 hch HCH
   go_wp2_with fail
   refine HPO.out.mono ?_
   rintro e w8 ⟨v8,rfl,hf8,ho8⟩
   have HB8:Hid (Below w7.heap.size w7 w8):=hide ⟨hf8.os,hf8.tape,hf8.output,hf8.size,fun k hk=>hf8.block k hk (fun e=>by cases e)⟩
   have hpp:0<(preP P n 0).length:=by cases n<;>simp [preP]
   rw [List.nil_append] at ho8
   obtain ⟨g4,c4,rfl,hg4,_⟩:=own_some' ho8 hpp
   have HO8:=hide ho8
   have HF8:=hide (HF7.out.below HB8.out)
   have t0:=HF8.out.e0
   have t1:=HF8.out.e1
   have t2:=HF8.out.e2
   have t3:=HF8.out.e3
   have tz:=HF8.out.thaw 3
   have hz8:=HB8.out.size
   have bb:Hid (Below w6.heap.size w6 w8):=hide HF8.out.bel
   obtain ⟨g1,k1,e1,hg1,_⟩:=own_some' HF8.out.o1 hn1
   obtain ⟨g2,k2,e2,hg2,_⟩:=own_some' HF8.out.o2 hn1
   injection e1 with e1a e1b e1c
   injection e2 with e2a e2b e2c
   subst e1a
   subst e2a
   subst e1c
   subst e2c
   have hl1:=(HFb.out.o1.lt g1 rfl).2
   have hl2:=(HFb.out.o2.lt g2 rfl).2
   generalize hQ:(preP P n 0).length=ql at *
   clear HPO hf8 ho8 m2 m3 mz
   have hR8:w8.rowIs (w.heap.size+1) 31 4 (fun _=>.slice none 0 0):=HR2.out.of_block ((bb.out.block _ (by omega)).trans (HB6.out.block _ (by omega)))
   have y0:=hR8.cell (i:=0) (by decide)
   have y1:=hR8.cell (i:=1) (by decide)
   have y2:=hR8.cell (i:=2) (by decide)
   have y3:=hR8.cell (i:=3) (by decide)
   have yf:=hR8.frozen
   have hne6:w6.heap.size≠w.heap.size+1:=by omega
   have hne7:w.heap.size+1≠w6.heap.size:=by omega
   have HR8:=hide hR8
   go_wp2_with fail
   obtain ⟨wE,hE⟩:∃wE,wE=((((w8.setCell ⟨w6.heap.size,3,none⟩ (.slice (some ⟨g4,0,none⟩) ql c4)).setCell ⟨w.heap.size+1,0,none⟩ (.slice (some ⟨g1,0,none⟩) n c1)).setCell ⟨w.heap.size+1,1,none⟩ (.slice (some ⟨g2,0,none⟩) n c2)).setCell ⟨w.heap.size+1,2,none⟩ (.slice (some ⟨gN,0,none⟩) n n)).setCell ⟨w.heap.size+1,3,none⟩ (.slice (some ⟨g4,0,none⟩) ql c4):=⟨_,rfl⟩
   rw [←hE]
   obtain ⟨z0,z1,z2,z3,hbk,hsz,hos,htp,hou⟩:=box4 HR8.out hne7 _ _ _ _ _ wE hE
   clear hE
   refine bodyPost_ret (v:=.agg #[.slice (some ⟨g1,0,none⟩) n c1,.slice (some ⟨g2,0,none⟩) n c2,.slice (some ⟨gN,0,none⟩) n n,.slice (some ⟨g4,0,none⟩) ql c4]) (by simp [results,Tryd.results5,go_sem,z0,z1,z2,z3]) rfl ?_
   subst hQ
   have hb68:∀k,k<w6.heap.size→k≠w.heap.size+1→wE.heap[k]?=w6.heap[k]?:=fun k h1 h2=>(hbk k (by omega) h2).trans (bb.out.block k h1)
   have hulk:∀i,i<n→∀k,(U i).ownBlock=some k→w1.heap.size+1+1≤k∧k<w2.heap.size:=fun i hi k e=>(HU.out.2.1 i hi).lt k e
   have hz26:=HB6.out.size
   refine ⟨U,P,g1,c1,g2,c2,gN,g4,c4,rfl,?_,HID.out,HID.out.len,?_,?_,?_,?_,?_,?_,?_,?_⟩
   ·exact ⟨hos.trans (bb.out.os.trans (HB6.out.os.trans HB2.out.os)),htp.trans (bb.out.tape.trans (HB6.out.tape.trans HB2.out.tape)),hou.trans (bb.out.output.trans (HB6.out.output.trans HB2.out.output)),by omega,fun k hk=>(hb68 k (by omega) (by omega)).trans ((HB6.out.block k (by omega)).trans (HB2.out.block k hk))⟩
   ·exact own_mv HF8.out.o1 (by omega) (fun k e=>by cases e;exact hbk g1 (by omega) (by omega))
   ·exact own_mv HF8.out.o2 (by omega) (fun k e=>by cases e;exact hbk g2 (by omega) (by omega))
   ·exact HRN2.out.of_block ((hb68 gN hgN6 (by omega)).trans (HFb.out.bel.block gN hgN6).symm)
   ·exact own_mv HO8.out (by omega) (fun k e=>by cases e;exact hbk g4 (by omega) (by omega))
   ·exact fun i hi=>own_mv (HU.out.2.1 i hi) (by omega) (fun k e=>by have:=hulk i hi k e;exact (hb68 k (by omega) (by omega)).trans (HB6.out.block k (by omega)))
   ·exact HU.out.2.2
   ·refine ⟨by omega,fun e=>?_,by omega,by omega,by omega,by omega,by omega⟩
    rcases HF8.out.dj with h | h
    ·cases h
    ·exact h (by rw [e];rfl)
   ·exact fun i hi k e=>by have:=hulk i hi k e;omega
end Go.Proofs.YtdfdmjcngkfciaaDoor
