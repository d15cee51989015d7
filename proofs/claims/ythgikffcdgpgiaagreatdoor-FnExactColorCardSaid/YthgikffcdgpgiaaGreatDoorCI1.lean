import Derived.Test.YthgikffcdgpgiaaGreatDoorED2
import Derived.Test.YthgikffcdgpgiaaGreatDoorVI1
import Derived.Test.YthgikffcdgpgiaaGreatDoorMem
import Derived.Test.YthgikffcdgpgiaaGreatDoorIw
import Derived.Test.YthgikffcdgpgiaaGreatDoorW2
namespace Go.Proofs.YthgikffcdgpgiaaGreatDoor
open Go.RowKit
theorem CoM.same {V cap gp go bo bp bc bv N:Nat} {C:Nat→Int} {A A':World} (h:CoM V cap gp go bo bp bc bv C A) (hN:gp<N∧go<N∧bo<N∧bp<N∧bc<N∧bv<N) (k:∀q,q<N→q<A.heap.size→A'.heap[q]?=A.heap[q]?):CoM V cap gp go bo bp bc bv C A':=by
 obtain ⟨h1,h2,h3,h4,h5,h6⟩:=hN
 have kc:∀{b:Nat} {v:Value},b<N→A.cell? ⟨b,0,none⟩=some v→A'.cell? ⟨b,0,none⟩=some v:=fun hb hc=>(World.cell?_of_block (k _ hb (World.block_lt_of_cell? A _ hc))).trans hc
 exact ⟨h.row.of_block (k _ h1 h.row.lt),h.out.of_block (k _ h2 h.out.lt),h.box.of_block (k _ h3 h.box.lt),kc h4 h.pick,kc h5 h.cc,kc h6 h.cv,h.rng,h.n1,h.n2,h.n3,h.n4,h.n5⟩
set_option maxHeartbeats 4000000 in
set_option maxRecDepth 100000 in
theorem colorI_any (V:Nat) (a:Option Addr) (n c:Nat) (xs:List Blk) (L B:Nat) (w:World) (P:List Int) (ha:Hid (BlksAt w L B a xs)) (hx:Hid (n=xs.length)) (hs:Hid (xs.length+blksTot xs≤1048576)) (hB:B≤w.heap.size) (hO:Hid (OpTabW w)) (hT:Hid (TerTabW w)) (hTz:Hid (TzTab w)) (hv:Hid (verdP (V:Int) xs=0)) (hP:Hid (IsIdm (tgN xs) n P)) :
  Calls Tryz.prog 8 #[.agg #[.int .i64 (V:Int),.slice a n c]] w fun e w'=>∃g,e=.returned (.agg #[.int .i64 0,.slice (some ⟨g,0,none⟩) V V,.int .i64 (ckN (ckF (fun _=>-1) (skA xs V (preP P n 0))) V)])∧Below w.heap.size w w'∧w.heap.size≤g∧IaAt w' g V V (ckF (fun _=>-1) (skA xs V (preP P n 0))):=by
 obtain ⟨hvv,hre⟩:=verd_zero hv.out
 have ho:=okL_of_valid hvv
 have HST:Hid (StpOk V (skA xs V (preP P n 0))):=hide (by
  have h1:=hP.out
  rw [hx.out] at h1
  have:=stp_ok hvv hre h1
  rw [hx.out]
  exact this)
 have hV:=ho.vle
 have HVD:=hide (fun W (hb:Below w.heap.size w W)=>verdictI_any (V:Int) a n c xs L B W (hide (ha.out.keep (hb.mono hB))) hx hs (by have:=hb.size;omega) (hide (hO.out.keep hb hO.out.1)) (hide (hT.out.keep hb hT.out.1)))
 rw [hv.out] at HVD
 have hmk:=run_make_row' (P:=Tryz.prog) 26 2 (.int .i64 0) 8 Tryz.underlying26 Tryz.info2' rfl .i64 .i64 V (by omega) (by omega)
 have HHV:=hide hvv
 have HHO:=hide ho
 clear hvv ho hre
 go_enter Tryz.func8,Tryz.ntmps8
 go_wp2_with fail
 have hb0:Below w.heap.size w ((w.alloc (.cells #[.int .i64 (V:Int),.slice a n c] 32)).alloc (.cells #[.int .i64 0,.slice none 0 0,.int .i64 0] 28)):=balloc (balloc (Below.refl _ _) _) _
 have hs0:w.heap.size+2≤((w.alloc (.cells #[.int .i64 (V:Int),.slice a n c] 32)).alloc (.cells #[.int .i64 0,.slice none 0 0,.int .i64 0] 28)).heap.size:=by simp
 have c0:((w.alloc (.cells #[.int .i64 (V:Int),.slice a n c] 32)).alloc (.cells #[.int .i64 0,.slice none 0 0,.int .i64 0] 28)).cell? ⟨w.heap.size,0,none⟩=some (.int .i64 (V:Int)):=by simp [go_sem]
 have c1:((w.alloc (.cells #[.int .i64 (V:Int),.slice a n c] 32)).alloc (.cells #[.int .i64 0,.slice none 0 0,.int .i64 0] 28)).cell? ⟨w.heap.size,1,none⟩=some (.slice a n c):=by simp [go_sem]
 have HR0:Hid (((w.alloc (.cells #[.int .i64 (V:Int),.slice a n c] 32)).alloc (.cells #[.int .i64 0,.slice none 0 0,.int .i64 0] 28)).heap[w.heap.size+1]?=some (.cells #[.int .i64 0,.slice none 0 0,.int .i64 0] 28)):=hide (by
  have:=World.alloc_heap_new (w.alloc (.cells #[.int .i64 (V:Int),.slice a n c] 32)) (.cells #[.int .i64 0,.slice none 0 0,.int .i64 0] 28)
  rwa [World.size_alloc] at this)
 generalize (w.alloc (.cells #[.int .i64 (V:Int),.slice a n c] 32)).alloc (.cells #[.int .i64 0,.slice none 0 0,.int .i64 0] 28)=w0 at *
 refine (HVD.out _ hb0).mono ?_
 rintro e w1 ⟨rfl,hb1⟩
 have hs1:=hb1.size
 have hl1:w.heap.size<w1.heap.size:=by omega
 have k0:=(cTr hb1 (by omega)).trans c0
 have k1:=(cTr hb1 (by omega)).trans c1
 have HB1:=hide (bnext hb0 hb1)
 have HR1:Hid (w1.heap[w.heap.size+1]?=some (.cells #[.int .i64 0,.slice none 0 0,.int .i64 0] 28)):=hide ((hb1.block _ (by omega)).trans HR0.out)
 clear hb0 hb1 c0 c1 HVD HR0
 go_wp2_with fail
 have hb2:Below w1.heap.size w1 ((w1.alloc (.cells (madeCells #[.int .i64 0] V) 2)).alloc (.cells #[.int .i64 0,.slice (some ⟨w1.heap.size,0,none⟩) V V,.int .i64 0] 28)):=balloc (balloc (Below.refl _ _) _) _
 have hz2:w1.heap.size+2≤((w1.alloc (.cells (madeCells #[.int .i64 0] V) 2)).alloc (.cells #[.int .i64 0,.slice (some ⟨w1.heap.size,0,none⟩) V V,.int .i64 0] 28)).heap.size:=by simp
 have hz2':((w1.alloc (.cells (madeCells #[.int .i64 0] V) 2)).alloc (.cells #[.int .i64 0,.slice (some ⟨w1.heap.size,0,none⟩) V V,.int .i64 0] 28)).heap.size≤w1.heap.size+2:=by simp
 have HRZ:Hid (((w1.alloc (.cells (madeCells #[.int .i64 0] V) 2)).alloc (.cells #[.int .i64 0,.slice (some ⟨w1.heap.size,0,none⟩) V V,.int .i64 0] 28)).rowIs w1.heap.size 2 V (fun _=>.int .i64 0)):=hide ((World.rowIs_made w1 (.int .i64 0) V 2).alloc _)
 have HRB:Hid (((w1.alloc (.cells (madeCells #[.int .i64 0] V) 2)).alloc (.cells #[.int .i64 0,.slice (some ⟨w1.heap.size,0,none⟩) V V,.int .i64 0] 28)).rowIs (w1.heap.size+1) 28 3 (trG (.int .i64 0) (.slice (some ⟨w1.heap.size,0,none⟩) V V) (.int .i64 0))):=hide (by
  have h:=World.rowIs_alloc (w1.alloc (.cells (madeCells #[.int .i64 0] V) 2)) #[.int .i64 0,.slice (some ⟨w1.heap.size,0,none⟩) V V,.int .i64 0] 28 (trG (.int .i64 0) (.slice (some ⟨w1.heap.size,0,none⟩) V V) (.int .i64 0)) (fun i hi=>by match i,hi with | 0,_=>rfl | 1,_=>rfl | 2,_=>rfl)
  rw [World.size_alloc] at h
  exact h)
 generalize ((w1.alloc (.cells (madeCells #[.int .i64 0] V) 2)).alloc (.cells #[.int .i64 0,.slice (some ⟨w1.heap.size,0,none⟩) V V,.int .i64 0] 28))=w2 at *
 have hz1b:=HB1.out.size
 obtain ⟨go,hgo⟩:∃go,go=w1.heap.size:=⟨_,rfl⟩
 rw [←hgo] at hb2 hz2 hz2' HRZ HRB
 rw [←hgo]
 have hgo1:w1.heap.size≤go:=by omega
 have hgo2:go≤w1.heap.size:=by omega
 have m0:=(cTr hb2 (by omega)).trans k0
 have m1:=(cTr hb2 (by omega)).trans k1
 have HR2:Hid (w2.heap[w.heap.size+1]?=some (.cells #[.int .i64 0,.slice none 0 0,.int .i64 0] 28)):=hide ((hb2.block _ (by omega)).trans HR1.out)
 have HB2:=hide (HB1.out.trans (hb2.mono (by omega)))
 clear hmk hb2 k0 k1 hgo HB1 HR1
 refine (picker_any V w2 hV).mono ?_
 rintro e w3 ⟨bc,bv,gp,rfl,hb3,hgp,hbc,hbv,hn1,hn2,hia,hcc,hcv⟩
 have hs3:=hb3.size
 have HB3:=hide (bnext HB2.out hb3)
 have p0:=(cTr hb3 (by omega)).trans m0
 have p1:=(cTr hb3 (by omega)).trans m1
 have HR3:Hid (w3.heap[w.heap.size+1]?=some (.cells #[.int .i64 0,.slice none 0 0,.int .i64 0] 28)):=hide ((hb3.block _ (by omega)).trans HR2.out)
 have l1:=hia.lt
 have l2:bc<w3.heap.size:=World.block_lt_of_cell? w3 _ hcc
 have l3:bv<w3.heap.size:=World.block_lt_of_cell? w3 _ hcv
 have HCO:Hid (CoM V V gp go (go+1) w3.heap.size bc bv (fun _=>-1) (w3.alloc (.cells #[.func (.func 57) #[] #[.pointer (some ⟨bc,0,none⟩),.pointer (some ⟨bv,0,none⟩)]] 69))):=hide (by
  refine ⟨hia.alloc _,?_,?_,by simp [go_sem],(World.cell?_alloc_lt _ _ _ l2).trans hcc,(World.cell?_alloc_lt _ _ _ l3).trans hcv,fun u _=>Or.inl rfl,by omega,⟨by omega,by omega⟩,⟨by omega,by omega,by omega⟩,⟨hn1,by omega,by omega⟩,⟨hn2,by omega,by omega⟩⟩
  ·exact IaAt.of_row (((HRZ.out.of_block (hb3.block _ (by omega))).alloc _).congr (fun i _=>by simp))
  ·exact ((HRB.out.of_block (hb3.block _ (by omega))).alloc _).congr (fun i hi=>by rw [ckN_start]))
 have hb4:Below w3.heap.size w3 (w3.alloc (.cells #[.func (.func 57) #[] #[.pointer (some ⟨bc,0,none⟩),.pointer (some ⟨bv,0,none⟩)]] 69)):=balloc (Below.refl _ _) _
 have HB4:Hid (Below w.heap.size w (w3.alloc (.cells #[.func (.func 57) #[] #[.pointer (some ⟨bc,0,none⟩),.pointer (some ⟨bv,0,none⟩)]] 69))):=hide (bnext HB3.out hb4)
 have hz4:w3.heap.size<(w3.alloc (.cells #[.func (.func 57) #[] #[.pointer (some ⟨bc,0,none⟩),.pointer (some ⟨bv,0,none⟩)]] 69)).heap.size:=by simp
 have HR4:Hid ((w3.alloc (.cells #[.func (.func 57) #[] #[.pointer (some ⟨bc,0,none⟩),.pointer (some ⟨bv,0,none⟩)]] 69)).heap[w.heap.size+1]?=some (.cells #[.int .i64 0,.slice none 0 0,.int .i64 0] 28)):=hide ((hb4.block _ (by omega)).trans HR3.out)
 have hl3:w.heap.size<w3.heap.size:=by omega
 have hsf:=fun (W:World)=>run_store Tryz.prog W ⟨w3.heap.size,0,none⟩ (.func (.func 57) #[] #[.pointer (some ⟨bc,0,none⟩),.pointer (some ⟨bv,0,none⟩)]) .plain rfl
 clear hb3 hia hcc hcv HRZ HRB m0 m1 HR2 HR3 HB2 HB3 hb4
 go_wp2_with fail
 generalize (w3.alloc (.cells #[.func (.func 57) #[] #[.pointer (some ⟨bc,0,none⟩),.pointer (some ⟨bv,0,none⟩)]] 69))=w4 at *
 have HEA:=hide (each_any V a n c xs L B w4 P w3.heap.size (go+1) (CoS gp go (go+1)) (fun ss U=>CoM V V gp go (go+1) w3.heap.size bc bv (ckF (fun _=>-1) ss) U) (hide (ha.out.keep (HB4.out.mono hB))) hx hs (by have:=HB4.out.size;omega) (hide (hO.out.keep HB4.out hO.out.1)) (hide (hT.out.keep HB4.out hT.out.1)) (hide (hTz.out.of_block (HB4.out.block _ (World.block_lt_of_cell? w _ (hTz.out 0 (by decide)))))) HHV HHO hP
  (hide (fun q h=>by rcases h with h | h | h<;>omega)) (hide (fun q h1 h2 h=>by rcases h with h | h | h<;>omega)) (hide (by
   have t1:=hO.out.1
   have t2:=hT.out.1
   have t3:(1 : Nat)<w.heap.size:=World.block_lt_of_cell? w _ (hTz.out 0 (by decide))
   exact ⟨fun h=>by rcases h with h | h | h<;>omega,fun h=>by rcases h with h | h | h<;>omega,fun h=>by rcases h with h | h | h<;>omega⟩))
  (hide (fun ss A A' h k=>h.same ⟨by omega,by omega,by omega,by omega,by omega,by omega⟩ k))
  (hide (fun pre v l post A z Kw Cz W e hC hz hd hl hk hls htz=>by
   have hvV:=HST.out.lt (v,l) (by rw [e];simp)
   have hnv:=ckF_none pre (fun _=>-1) (fun t ht=>HST.out.nd pre (v,l) post e t ht)
   refine (co_step v V z Kw Cz V gp go (go+1) w3.heap.size bc bv W _ A (hide hz) (hide hd) (hide htz) hk (hide hl) hV (hide hC) hvV (hide hnv)).mono ?_
   rintro e2 A' ⟨q1,q2,q3⟩
   refine ⟨q1,q2,?_⟩
   rw [ckF_snoc,←hls]
   exact q3)) (hide (by simpa [ckF] using HCO.out)))
 have HAL:Hid (∀u,u<V→0≤ckF (fun _=>-1) (skA xs V (preP P n 0)) u):=hide (fun u hu=>ckF_nonneg _ _ (Or.inr (HST.out.all u hu)))
 obtain ⟨C9,hC9⟩:∃C9,C9=ckF (fun _=>-1) (skA xs V (preP P n 0)):=⟨_,rfl⟩
 simp only [←hC9] at HEA HAL
 have HC9:=hide hC9
 clear hC9
 clear HCO hsf
 refine HEA.out.mono ?_
 rintro e w5 ⟨rfl,hF5,hC5⟩
 have HC5:=hide hC5
 have HF5:=hide hF5
 have b0:=hC5.box.cell (i:=0) (by decide)
 have b1:=hC5.box.cell (i:=1) (by decide)
 have b2:=hC5.box.cell (i:=2) (by decide)
 simp only [trG] at b0 b1 b2
 have HRW:Hid (w5.rowIs (w.heap.size+1) 28 3 (trG (.int .i64 0) (.slice none 0 0) (.int .i64 0))):=hide ⟨_,(hF5.fr _ (by omega) (fun h=>by rcases h with h | h | h<;>omega)).trans HR4.out,rfl,fun i hi=>by match i,hi with | 0,_=>rfl | 1,_=>rfl | 2,_=>rfl⟩
 clear hC5 hF5 HEA p0 p1
 have lc0:=HRW.out.cell (i:=0) (by decide)
 have lc1:=HRW.out.cell (i:=1) (by decide)
 have lc2:=HRW.out.cell (i:=2) (by decide)
 have lz:=HRW.out.frozen
 have hsc:∀(W:World) (i j:Nat) (u:Value),i≠j→(W.setCell ⟨w.heap.size+1,i,none⟩ u).cell? ⟨w.heap.size+1,j,none⟩=W.cell? ⟨w.heap.size+1,j,none⟩:=fun W i j u h=>World.cell?_setCell_other _ _ _ _ (fun e=>h (congrArg Addr.off e))
 go_wp2_with fail
 clear lc0 lc1 lc2 lz hsc b0 b1 b2
 have HR9:Hid ((((w5.setCell ⟨w.heap.size+1,0,none⟩ (.int .i64 0)).setCell ⟨w.heap.size+1,1,none⟩ (.slice (some ⟨go,0,none⟩) V V)).setCell ⟨w.heap.size+1,2,none⟩ (.int .i64 (ckN C9 V))).rowIs (w.heap.size+1) 28 3 (trG (.int .i64 0) (.slice (some ⟨go,0,none⟩) V V) (.int .i64 (ckN C9 V)))):=hide ((((HRW.out.set 0 _).set 1 _).set 2 _).congr (fun i hi=>by match i,hi with | 0,_=>rfl | 1,_=>rfl | 2,_=>rfl))
 have hbr:Below w.heap.size w w5:=⟨HF5.out.os.trans HB4.out.os,HF5.out.tape.trans HB4.out.tape,HF5.out.output.trans HB4.out.output,Nat.le_trans HB4.out.size HF5.out.size,fun q' hq'=>(HF5.out.fr q' (by have:=HB4.out.size;omega) (fun h=>by rcases h with h | h | h<;>omega)).trans (HB4.out.block q' hq')⟩
 have HB9:Hid (Below w.heap.size w (((w5.setCell ⟨w.heap.size+1,0,none⟩ (.int .i64 0)).setCell ⟨w.heap.size+1,1,none⟩ (.slice (some ⟨go,0,none⟩) V V)).setCell ⟨w.heap.size+1,2,none⟩ (.int .i64 (ckN C9 V)))):=hide (((hbr.setCell (Nat.le_succ _) _).setCell (Nat.le_succ _) _).setCell (Nat.le_succ _) _)
 have HI9:Hid (IaAt (((w5.setCell ⟨w.heap.size+1,0,none⟩ (.int .i64 0)).setCell ⟨w.heap.size+1,1,none⟩ (.slice (some ⟨go,0,none⟩) V V)).setCell ⟨w.heap.size+1,2,none⟩ (.int .i64 (ckN C9 V))) go V V C9):=hide ((((HC5.out.out.setOther (by show go≠w.heap.size+1;omega) _).setOther (by show go≠w.heap.size+1;omega) _).setOther (by show go≠w.heap.size+1;omega) _).congr (fun u hu=>by
  have:=HAL.out u hu
  rw [if_neg (by omega)]))
 generalize (((w5.setCell ⟨w.heap.size+1,0,none⟩ (.int .i64 0)).setCell ⟨w.heap.size+1,1,none⟩ (.slice (some ⟨go,0,none⟩) V V)).setCell ⟨w.heap.size+1,2,none⟩ (.int .i64 (ckN C9 V)))=w9 at *
 have r0:=HR9.out.cell (i:=0) (by decide)
 have r1:=HR9.out.cell (i:=1) (by decide)
 have r2:=HR9.out.cell (i:=2) (by decide)
 simp only [trG] at r0 r1 r2
 refine bodyPost_ret (v:=.agg #[.int .i64 0,.slice (some ⟨go,0,none⟩) V V,.int .i64 (ckN C9 V)]) (by simp [results,Tryz.results8,go_sem,r0,r1,r2]) rfl ?_
 rw [←HC9.out]
 exact ⟨go,rfl,HB9.out,by omega,HI9.out⟩
set_option maxHeartbeats 4000000 in
set_option maxRecDepth 100000 in
theorem colorI_no (v:Int) (a:Option Addr) (n c:Nat) (xs:List Blk) (L B:Nat) (w:World) (ha:Hid (BlksAt w L B a xs)) (hx:Hid (n=xs.length)) (hs:Hid (xs.length+blksTot xs≤1048576)) (hB:B≤w.heap.size) (hO:Hid (OpTabW w)) (hT:Hid (TerTabW w)) (hv:verdP v xs≠0) :
  Calls Tryz.prog 8 #[.agg #[.int .i64 v,.slice a n c]] w fun e w'=>e=.returned (.agg #[.int .i64 (verdP v xs),.slice none 0 0,.int .i64 0])∧Below w.heap.size w w':=by
 have HVD:=hide (fun W (hb:Below w.heap.size w W)=>verdictI_any v a n c xs L B W (hide (ha.out.keep (hb.mono hB))) hx hs (by have:=hb.size;omega) (hide (hO.out.keep hb hO.out.1)) (hide (hT.out.keep hb hT.out.1)))
 have hne:(verdP v xs==0)=false:=by simpa using hv
 generalize verdP v xs=V at *
 go_enter Tryz.func8,Tryz.ntmps8
 go_wp2_with fail
 have hb0:Below w.heap.size w ((w.alloc (.cells #[.int .i64 v,.slice a n c] 32)).alloc (.cells #[.int .i64 0,.slice none 0 0,.int .i64 0] 28)):=balloc (balloc (Below.refl _ _) _) _
 have hs0:w.heap.size+2≤((w.alloc (.cells #[.int .i64 v,.slice a n c] 32)).alloc (.cells #[.int .i64 0,.slice none 0 0,.int .i64 0] 28)).heap.size:=by simp
 have HR0:Hid (((w.alloc (.cells #[.int .i64 v,.slice a n c] 32)).alloc (.cells #[.int .i64 0,.slice none 0 0,.int .i64 0] 28)).heap[w.heap.size+1]?=some (.cells #[.int .i64 0,.slice none 0 0,.int .i64 0] 28)):=hide (by
  have:=World.alloc_heap_new (w.alloc (.cells #[.int .i64 v,.slice a n c] 32)) (.cells #[.int .i64 0,.slice none 0 0,.int .i64 0] 28)
  rwa [World.size_alloc] at this)
 generalize (w.alloc (.cells #[.int .i64 v,.slice a n c] 32)).alloc (.cells #[.int .i64 0,.slice none 0 0,.int .i64 0] 28)=w0 at *
 refine (HVD.out _ hb0).mono ?_
 rintro e w1 ⟨rfl,hb1⟩
 have HB1:=hide (bnext hb0 hb1)
 have HRW:Hid (w1.rowIs (w.heap.size+1) 28 3 (trG (.int .i64 0) (.slice none 0 0) (.int .i64 0))):=hide ⟨_,(hb1.block _ (by omega)).trans HR0.out,rfl,fun i hi=>by match i,hi with | 0,_=>rfl | 1,_=>rfl | 2,_=>rfl⟩
 clear hb0 hb1 HVD HR0
 have lc0:=HRW.out.cell (i:=0) (by decide)
 have lc1:=HRW.out.cell (i:=1) (by decide)
 have lc2:=HRW.out.cell (i:=2) (by decide)
 have lz:=HRW.out.frozen
 have hsc:∀(W:World) (i j:Nat) (u:Value),i≠j→(W.setCell ⟨w.heap.size+1,i,none⟩ u).cell? ⟨w.heap.size+1,j,none⟩=W.cell? ⟨w.heap.size+1,j,none⟩:=fun W i j u h=>World.cell?_setCell_other _ _ _ _ (fun e=>h (congrArg Addr.off e))
 go_wp2_with fail
 clear lc0 lc1 lc2 lz hsc
 have HR9:Hid ((((w1.setCell ⟨w.heap.size+1,0,none⟩ (.int .i64 V)).setCell ⟨w.heap.size+1,1,none⟩ (.slice none 0 0)).setCell ⟨w.heap.size+1,2,none⟩ (.int .i64 0)).rowIs (w.heap.size+1) 28 3 (trG (.int .i64 V) (.slice none 0 0) (.int .i64 0))):=hide ((((HRW.out.set 0 _).set 1 _).set 2 _).congr (fun i hi=>by match i,hi with | 0,_=>rfl | 1,_=>rfl | 2,_=>rfl))
 have HB9:Hid (Below w.heap.size w (((w1.setCell ⟨w.heap.size+1,0,none⟩ (.int .i64 V)).setCell ⟨w.heap.size+1,1,none⟩ (.slice none 0 0)).setCell ⟨w.heap.size+1,2,none⟩ (.int .i64 0))):=hide (((HB1.out.setCell (Nat.le_succ _) _).setCell (Nat.le_succ _) _).setCell (Nat.le_succ _) _)
 generalize (((w1.setCell ⟨w.heap.size+1,0,none⟩ (.int .i64 V)).setCell ⟨w.heap.size+1,1,none⟩ (.slice none 0 0)).setCell ⟨w.heap.size+1,2,none⟩ (.int .i64 0))=w9 at *
 have r0:=HR9.out.cell (i:=0) (by decide)
 have r1:=HR9.out.cell (i:=1) (by decide)
 have r2:=HR9.out.cell (i:=2) (by decide)
 simp only [trG] at r0 r1 r2
 exact bodyPost_ret (v:=.agg #[.int .i64 V,.slice none 0 0,.int .i64 0]) (by simp [results,Tryz.results8,go_sem,r0,r1,r2]) rfl ⟨rfl,HB9.out⟩
end Go.Proofs.YthgikffcdgpgiaaGreatDoor

namespace Go.Proofs.YthgikffcdgpgiaaGreatDoor
open Go.RowKit
theorem oth (w:World) (b:Nat) {o o':Nat} (h:o≠o') (v:Value):(w.setCell ⟨b,o,none⟩ v).cell? ⟨b,o',none⟩=w.cell? ⟨b,o',none⟩:=World.cell?_setCell_other _ _ _ _ (by intro e;injection e with _ e2;exact h e2)
theorem IW.set4 {L B:Nat} {w wr:World} (h:IW L B w wr) {b o:Nat} (hb:L≤b∧b<B) {u0 u1 u2 u3:Int} (e0:wr.cell? ⟨b,o,none⟩=some (.int .i64 u0)) (e1:wr.cell? ⟨b,o+1,none⟩=some (.int .i64 u1)) (e2:wr.cell? ⟨b,o+2,none⟩=some (.int .i64 u2)) (e3:wr.cell? ⟨b,o+3,none⟩=some (.int .i64 u3)) (v0 v1 v2 v3:Int) :
  IW L B w ((((wr.setCell ⟨b,o,none⟩ (.int .i64 v0)).setCell ⟨b,o+1,none⟩ (.int .i64 v1)).setCell ⟨b,o+2,none⟩ (.int .i64 v2)).setCell ⟨b,o+3,none⟩ (.int .i64 v3)):=by
 refine IW.set (IW.set (IW.set (IW.set h hb e0 v0) hb (u:=u1) ?_ v1) hb (u:=u2) ?_ v2) hb (u:=u3) ?_ v3
 ·rw [oth _ _ (by omega)];exact e1
 ·rw [oth _ _ (by omega),oth _ _ (by omega)];exact e2
 ·rw [oth _ _ (by omega),oth _ _ (by omega),oth _ _ (by omega)];exact e3
theorem IW.set5 {L B:Nat} {w wr:World} (h:IW L B w wr) {b o:Nat} (hb:L≤b∧b<B) {u0 u1 u2 u3 u4:Int} (e0:wr.cell? ⟨b,o,none⟩=some (.int .i64 u0)) (e1:wr.cell? ⟨b,o+1,none⟩=some (.int .i64 u1)) (e2:wr.cell? ⟨b,o+2,none⟩=some (.int .i64 u2)) (e3:wr.cell? ⟨b,o+3,none⟩=some (.int .i64 u3)) (e4:wr.cell? ⟨b,o+4,none⟩=some (.int .i64 u4)) (v0 v1 v2 v3 v4:Int) :
  IW L B w (((((wr.setCell ⟨b,o,none⟩ (.int .i64 v0)).setCell ⟨b,o+1,none⟩ (.int .i64 v1)).setCell ⟨b,o+2,none⟩ (.int .i64 v2)).setCell ⟨b,o+3,none⟩ (.int .i64 v3)).setCell ⟨b,o+4,none⟩ (.int .i64 v4)):=by
 refine IW.set (h.set4 hb e0 e1 e2 e3 v0 v1 v2 v3) hb (u:=u4) ?_ v4
 rw [oth _ _ (by omega),oth _ _ (by omega),oth _ _ (by omega),oth _ _ (by omega)];exact e4
def marks (k:Int) (n:Nat):List Int:=(List.range n).map fun i=>k+(i:Nat)
theorem marks_len (k:Int) (n:Nat):(marks k n).length=n:=by simp [marks]
theorem marks_get (k:Int) (n i:Nat) (h:i<(marks k n).length):(marks k n)[i]=k+(i:Nat):=by simp [marks]
set_option maxHeartbeats 400000 in
theorem markInts_any (a:Option Addr) (n c:Nat) (k:Int) (xs:List Int) (L B:Nat) (w:World) (ha:Hid (IntsAt w L B a xs)) (hx:Hid (n=xs.length)) (ht:Hid (ThawB L B w)) (hn:n≤1048576) (h0:0≤k) (h1:k≤1000000000) :
  Calls Tryz.prog 31 #[.slice a n c,.int .i64 k] w fun e w'=>e=.returned (.int .i64 (k+n))∧IW L B w w'∧IntsAt w' L B a (marks k n):=by
 go_enter Tryz.func31,Tryz.ntmps31
 go_wp2
 go_loopw [1,5] (fun u i wr=>∃j:Nat,j≤n∧i=.int .i64 j∧u=.int .i64 (k+j)∧Hid (IW L B w wr)∧Hid (∀q,q<j→∃b o,a=some ⟨b,o,none⟩∧(L≤b∧b<B)∧wr.cell? ⟨b,o+q,none⟩=some (.int .i64 (k+(q:Nat))))) (fun _ i _=>n-(intOf i).toNat)
 case atStart=>exact ⟨0,Nat.zero_le _,rfl,by simp,IW.refl _ _ _,fun q hq=>absurd hq (by omega)⟩
 case round =>
  obtain ⟨j,hj,rfl,rfl,hw,hq⟩:=hrel
  by_cases hlt:j<n
  ·have hjx:j<xs.length:=by have:=hx.out;omega
   obtain ⟨b,o,rfl,hbB,hc⟩:=ha.out j hjx
   obtain ⟨u,e1⟩:=hw.out.int hc
   have e2:=hw.out.thawB ht.out b (o+j) hbB
   clear hc
   go_wp2
   refine ⟨⟨j+1,by omega,by go_num,by go_num,hw.out.set hbB e1 _,fun q hqj=>?_⟩,by simp [intOf];omega⟩
   by_cases e:q=j
   ·subst e
    exact ⟨b,o,rfl,hbB,World.cell?_setCell_same _ _ _ e1⟩
   ·obtain ⟨b',o',e',hb',hc'⟩:=hq.out q (by omega)
    cases e'
    exact ⟨b,o,rfl,hbB,by rw [World.cell?_setCell_other _ _ _ _ (by intro h;injection h with _ h2;omega)];exact hc'⟩
  ·have hjn:j=n:=by omega
   subst hjn
   go_wp2
   go_ret
   refine ⟨rfl,hw.out,fun i hi=>?_⟩
   rw [marks_get]
   rw [marks_len] at hi
   exact hq.out i hi
set_option maxHeartbeats 400000 in
theorem heldInts_any (a:Option Addr) (n c:Nat) (k:Int) (L B:Nat) (w:World) (ha:Hid (IntsAt w L B a (marks k n))) (hn:n≤1048576) (h0:0≤k) (h1:k≤1000000000) :
  Calls Tryz.prog 32 #[.slice a n c,.int .i64 k] w fun e w'=>e=.returned (.int .i64 (k+n))∧w'=w:=by
 go_enter Tryz.func32,Tryz.ntmps32
 go_wp2
 go_loop [1,5] (fun u i=>∃j:Nat,j≤n∧i=.int .i64 j∧u=.int .i64 (k+j)) (fun _ i=>n-(intOf i).toNat)
 case atStart=>exact ⟨0,Nat.zero_le _,rfl,by simp⟩
 case round =>
  obtain ⟨j,hj,rfl,rfl⟩:=hrel
  by_cases hlt:j<n
  ·obtain ⟨b,o,rfl,hbB,hc⟩:=ha.out j (by rw [marks_len];exact hlt)
   rw [marks_get] at hc
   go_wp2
   go_round
   case rel=>exact ⟨j+1,by omega,by go_num,by go_num⟩
   case measure=>simp [intOf];omega
  ·have hjn:j=n:=by omega
   subst hjn
   go_wp2
   go_ret
   exact ⟨rfl,rfl⟩
set_option maxHeartbeats 1000000 in
theorem markInstrs_any (a:Option Addr) (n c:Nat) (k:Int) (xs:List Ins) (L B:Nat) (w:World) (ha:Hid (InssAt w L B a xs)) (hx:Hid (n=xs.length)) (ht:Hid (ThawB L B w)) (hn:n≤1048576) (h0:0≤k) (h1:k≤1000000000) :
  Calls Tryz.prog 65 #[.slice a n c,.int .i64 k] w fun e w'=>e=.returned (.int .i64 (k+5*n))∧IW L B w w':=by
 go_enter Tryz.func65,Tryz.ntmps65
 go_wp2
 go_loopw [1,5] (fun u i wr=>∃j:Nat,j≤n∧i=.int .i64 j∧u=.int .i64 (k+5*j)∧Hid (IW L B w wr)) (fun _ i _=>n-(intOf i).toNat)
 case atStart=>exact ⟨0,Nat.zero_le _,rfl,by simp,IW.refl _ _ _⟩
 case round =>
  obtain ⟨j,hj,rfl,rfl,hw⟩:=hrel
  by_cases hlt:j<n
  ·have hjx:j<xs.length:=by have:=hx.out;omega
   obtain ⟨b,o,rfl,hbB,hc⟩:=ha.out j hjx
   obtain ⟨⟨u0,u1,u2,u3,u4⟩,e0,e1,e2,e3,e4⟩:=hc.iw hw.out
   dsimp only at e0 e1 e2 e3 e4
   have ft:=hw.out.thawB ht.out
   have f0:=ft b (o+j*5) hbB
   have f1:=ft b (o+j*5+1) hbB
   have f2:=ft b (o+j*5+2) hbB
   have f3:=ft b (o+j*5+3) hbB
   have f4:=ft b (o+j*5+4) hbB
   clear hc ft
   go_wp2
   exact ⟨⟨j+1,by omega,by go_num,by go_num,hw.out.set5 hbB e0 e1 e2 e3 e4 _ _ _ _ _⟩,by simp [intOf];omega⟩
  ·have hjn:j=n:=by omega
   subst hjn
   go_wp2
   go_ret
   exact ⟨rfl,hw.out⟩
def phCnt (ls:List Nat):Nat:=(ls.map (· + 1)).sum
theorem phCnt_snoc (ls:List Nat) (l:Nat):phCnt (ls++[l])=phCnt ls+(l+1):=by simp [phCnt]
theorem phCnt_take (ls:List Nat) (k:Nat):phCnt (ls.take k)≤phCnt ls:=sum_take_le _ _ _
set_option maxHeartbeats 1000000 in
theorem markPhis_any (a:Option Addr) (n c:Nat) (k:Int) (xs:List Ph) (L B:Nat) (w:World) (ha:Hid (PhsAt w L B a xs)) (hx:Hid (n=xs.length)) (ht:Hid (ThawB L B w)) (hl:Hid (∀p∈xs,p.args.length≤1048576)) (hn:n≤1048576) (h0:0≤k) (h1:k≤100000000) (h2:phCnt (xs.map fun p=>p.args.length)≤100000000) :
  Calls Tryz.prog 64 #[.slice a n c,.int .i64 k] w fun e w'=>e=.returned (.int .i64 (k+phCnt (xs.map fun p=>p.args.length)))∧IW L B w w':=by
 go_enter Tryz.func64,Tryz.ntmps64
 go_wp2
 go_loopw [1,5] (fun u i wr=>∃j:Nat,j≤n∧i=.int .i64 j∧u=.int .i64 (k+(phCnt ((xs.take j).map fun p=>p.args.length):Nat))∧Hid (IW L B w wr)) (fun _ i _=>n-(intOf i).toNat)
 case atStart=>exact ⟨0,Nat.zero_le _,rfl,by simp [phCnt],IW.refl _ _ _⟩
 case round =>
  obtain ⟨j,hj,rfl,rfl,hw⟩:=hrel
  by_cases hlt:j<n
  ·have hjx:j<xs.length:=by have:=hx.out;omega
   obtain ⟨b,o,rfl,hbB,hc⟩:=ha.out j hjx
   obtain ⟨⟨d,ys⟩,hyl,aa,cc,e0,e1,hi⟩:=hc.iw hw.out
   dsimp only at e0 e1 hi hyl
   rw [hyl] at e1
   have hal:=hl.out _ (List.getElem_mem hjx)
   have ft:=hw.out.thawB ht.out
   have f0:=ft b (o+j*2) hbB
   have hS:Hid (phCnt ((xs.take (j+1)).map fun p=>p.args.length)=phCnt ((xs.take j).map fun p=>p.args.length)+(xs[j].args.length+1)):=by show _=_;rw [take_next _ _ hjx,List.map_append,List.map_cons,List.map_nil,phCnt_snoc]
   have hb2:phCnt ((xs.take j).map fun p=>p.args.length)+(xs[j].args.length+1)≤100000000:=by
    have h3:=hS.out
    have h4:=phCnt_take (xs.map fun p=>p.args.length) (j+1)
    rw [←List.map_take] at h4
    omega
   have FT:=hide ft
   have HI:=hide hi
   have E1:=hide e1
   clear hc ft hi
   generalize phCnt ((xs.take j).map fun p=>p.args.length)=S at *
   generalize xs[j].args.length=m at *
   go_wp2_with fail
   have hw2:=hw.out.set hbB e0 (k+S)
   have hi2:=HI.out.iw (L':=L) (B':=B) ((IW.refl L B wr).set hbB e0 (k+S))
   obtain ⟨zs,hzl,hz⟩:=hi2
   refine (markInts_any _ _ _ _ zs L B _ hz (by show _=_;omega) ((FT.out).setCell _ _) (by omega) (by omega) (by omega)).mono ?_
   rintro e w2 ⟨rfl,hiw,_⟩
   go_wp2
   exact ⟨⟨j+1,by omega,by go_num,by rw [hS.out];go_num,hw2.trans hiw⟩,by simp [intOf];omega⟩
  ·have hjn:j=n:=by omega
   subst hjn
   have E:=hide (List.take_of_length_le (l:=xs) (i:=j) (by have:=hx.out;omega))
   go_wp2
   go_ret
   exact ⟨ret_int (by rw [E.out]),hw.out⟩
end Go.Proofs.YthgikffcdgpgiaaGreatDoor

namespace Go.Proofs.YthgikffcdgpgiaaGreatDoor
open Go.RowKit
structure Mod (L B:Nat) (w w':World):Prop where
 os:w'.os=w.os
 tape:w'.tape=w.tape
 output:w'.output=w.output
 size:w.heap.size≤w'.heap.size
 block:∀k,k<w.heap.size→¬(L≤k∧k<B)→w'.heap[k]?=w.heap[k]?
theorem Mod.of_iw {L B:Nat} {w w':World} (h:IW L B w w'):Mod L B w w':=⟨h.os,h.tape,h.output,by rw [h.size];exact Nat.le_refl _,fun k _ hk=>h.block k hk⟩
theorem Mod.of_below {L B:Nat} {w w':World} (h:Below w.heap.size w w'):Mod L B w w':=⟨h.os,h.tape,h.output,h.size,fun k hk _=>h.block k hk⟩
theorem Mod.trans {L B:Nat} {w w1 w2:World} (h:Mod L B w w1) (k:Mod L B w1 w2):Mod L B w w2 :=
 ⟨k.os.trans h.os,k.tape.trans h.tape,k.output.trans h.output,Nat.le_trans h.size k.size,fun i hi hj=>(k.block i (Nat.lt_of_lt_of_le hi h.size) hj).trans (h.block i hi hj)⟩
theorem Mod.below {L B:Nat} {w0 w w':World} (h:Mod L B w w') (k:Below w0.heap.size w0 w) (hl:w0.heap.size≤L):Below w0.heap.size w0 w' :=
 ⟨h.os.trans k.os,h.tape.trans k.tape,h.output.trans k.output,Nat.le_trans k.size h.size,fun i hi=>(h.block i (Nat.lt_of_lt_of_le hi k.size) (by omega)).trans (k.block i hi)⟩
def shCnt (s:List Nat × Nat):Nat:=phCnt s.1+5*s.2+4
def shsCnt (ss:List (List Nat × Nat)):Nat:=(ss.map shCnt).sum
theorem shsCnt_snoc (ss:List (List Nat × Nat)) (s:List Nat × Nat):shsCnt (ss++[s])=shsCnt ss+shCnt s:=by simp [shsCnt]
theorem shsCnt_take (ss:List (List Nat × Nat)) (k:Nat):shsCnt (ss.take k)≤shsCnt ss:=sum_take_le _ _ _
set_option maxHeartbeats 1000000 in
theorem markBlocks_any (a:Option Addr) (n c:Nat) (k:Int) (xs:List Blk) (L B:Nat) (w:World) (ha:Hid (BlksAt w L B a xs)) (hx:Hid (n=xs.length)) (ht:Hid (ThawB L B w)) (hl:Hid (BlkLen xs)) (hn:n≤1048576) (h0:0≤k) (h1:k≤10000000) (h2:shsCnt (xs.map Blk.sh)≤10000000) :
  Calls Tryz.prog 30 #[.slice a n c,.int .i64 k] w fun e w'=>e=.returned (.int .i64 (k+shsCnt (xs.map Blk.sh)))∧IW L B w w':=by
 go_enter Tryz.func30,Tryz.ntmps30
 go_wp2
 go_loopw [1,5] (fun u i wr=>∃j:Nat,j≤n∧i=.int .i64 j∧u=.int .i64 (k+(shsCnt ((xs.take j).map Blk.sh):Nat))∧Hid (IW L B w wr)) (fun _ i _=>n-(intOf i).toNat)
 case atStart=>exact ⟨0,Nat.zero_le _,rfl,by simp [shsCnt],IW.refl _ _ _⟩
 case round =>
  obtain ⟨j,hj,rfl,rfl,hw⟩:=hrel
  by_cases hlt:j<n
  ·have hjx:j<xs.length:=by have:=hx.out;omega
   obtain ⟨b,o,rfl,hbB,hc⟩:=ha.out j hjx
   have hS:Hid (shsCnt ((xs.take (j+1)).map Blk.sh)=shsCnt ((xs.take j).map Blk.sh)+shCnt xs[j].sh):=by show _=_;rw [take_next _ _ hjx,List.map_append,List.map_cons,List.map_nil,shsCnt_snoc]
   have hb2:shsCnt ((xs.take j).map Blk.sh)+shCnt xs[j].sh≤10000000:=by
    have h3:=hS.out
    have h4:=shsCnt_take (xs.map Blk.sh) (j+1)
    rw [←List.map_take] at h4
    omega
   obtain ⟨hl1,hl2,hl3⟩:=hl.out _ (List.getElem_mem hjx)
   obtain ⟨Y,hsh,pa,pc,ia,ic,e0,e1,_,hp,_⟩:=hc.iw hw.out
   have hsh1:Y.phis.map (fun p=>p.args.length)=xs[j].phis.map (fun p=>p.args.length):=congrArg Prod.fst hsh
   have hsh2:Y.instrs.length=xs[j].instrs.length:=congrArg Prod.snd hsh
   have hYp:Y.phis.length=xs[j].phis.length:=by have:=congrArg List.length hsh1;simpa using this
   have hYl:∀p∈Y.phis,p.args.length≤1048576:=fun p hp'=>by
    have h5:p.args.length∈Y.phis.map (fun p=>p.args.length):=List.mem_map.2 ⟨p,hp',rfl⟩
    rw [hsh1] at h5
    obtain ⟨q,hq,e⟩:=List.mem_map.1 h5
    rw [←e];exact hl3 q hq
   have HC:=hide hc
   have HYL:=hide hYl
   have hpc:phCnt (Y.phis.map (fun p=>p.args.length))+5*Y.instrs.length+4=shCnt xs[j].sh:=by rw [hsh1,hsh2];rfl
   rw [hYp,←hYp] at e0
   have ft:=hide (hw.out.thawB ht.out)
   have HP:=hide hp
   have HPC:=hide hpc
   have hpb:phCnt (Y.phis.map (fun p=>p.args.length))+5*Y.instrs.length+4≤10000000:=by omega
   have hYi:Y.instrs.length≤1048576:=by omega
   have hYn:Y.phis.length≤1048576:=by omega
   have e0':wr.cell? ⟨b,o+j*6,none⟩=some (.slice pa Y.phis.length pc):=e0
   have e1':wr.cell? ⟨b,o+j*6+1,none⟩=some (.slice ia Y.instrs.length ic):=e1
   have HS2:=hide hsh2
   clear hc hp e0 e1 hsh hsh1 hsh2 hpc hYl hl1 hl2 hl3 hYp
   generalize hQ:shsCnt ((xs.take j).map Blk.sh)=Q at *
   have HQ:=hide hQ
   clear hQ
   go_wp2_with fail
   refine (markPhis_any _ _ _ _ Y.phis L B _ HP rfl ft HYL (by omega) (by omega) (by omega) (by omega)).mono ?_
   rintro e w2 ⟨rfl,hiw2⟩
   have c2:=hiw2.slice e1'
   obtain ⟨Y2,hsh',pa2,pc2,ia2,ic2,_,g1,_,_,hi2⟩:=HC.out.iw (hw.out.trans hiw2)
   have hsame:ia2=ia∧Y2.instrs.length=Y.instrs.length:=by
    have:=Option.some.inj (g1.symm.trans c2)
    injection this with q1 q2 _
    exact ⟨q1,q2⟩
   obtain ⟨rfl,hlen2⟩:=hsame
   have HI2:=hide hi2
   have ft2:=hide (hiw2.thawB ft.out)
   have HL2:=hide hlen2
   have HIW2:=hide hiw2
   clear g1 hi2 hsh' hiw2 e0' e1' hlen2
   generalize phCnt (Y.phis.map (fun p=>p.args.length))=S at *
   go_wp2_with fail
   refine (markInstrs_any _ _ _ _ Y2.instrs L B _ HI2 HL2.out.symm ft2 (by omega) (by omega) (by omega)).mono ?_
   rintro e w3 ⟨rfl,hiw3⟩
   obtain ⟨Y3,_,_,_,_,_,_,_,⟨t0,t1,t2,t3⟩,_,_⟩:=HC.out.iw (hw.out.trans (HIW2.out.trans hiw3))
   have ft3:=hiw3.thawB ft2.out
   have f0:=ft3 b (o+j*6+2) hbB
   have f1:=ft3 b (o+j*6+2+1) hbB
   have f2:=ft3 b (o+j*6+2+2) hbB
   have f3:=ft3 b (o+j*6+2+3) hbB
   have HIW3:=hide hiw3
   clear hiw3 ft3 c2
   go_wp2
   exact ⟨⟨j+1,by omega,by go_num,by rw [hS.out,←HPC.out];go_num,(hw.out.trans (HIW2.out.trans HIW3.out)).set4 hbB t0 t1 t2 t3 _ _ _ _⟩,by simp [intOf];omega⟩
  ·have hjn:j=n:=by omega
   subst hjn
   have E:=hide (List.take_of_length_le (l:=xs) (i:=j) (by have:=hx.out;omega))
   go_wp2
   go_ret
   exact ⟨ret_int (by rw [E.out]),hw.out⟩
set_option maxHeartbeats 400000 in
theorem markFunc_any (v:Int) (a:Option Addr) (n c:Nat) (k:Int) (xs:List Blk) (L B:Nat) (w:World) (ha:Hid (BlksAt w L B a xs)) (hx:Hid (n=xs.length)) (ht:Hid (ThawB L B w)) (hl:Hid (BlkLen xs)) (hB:B≤w.heap.size) (hn:n≤1048576) (h0:0≤k) (h1:k≤10000000) (h2:shsCnt (xs.map Blk.sh)≤10000000) :
  Calls Tryz.prog 11 #[.agg #[.int .i64 v,.slice a n c],.int .i64 k] w fun e w'=>e=.returned (.int .i64 (k+shsCnt (xs.map Blk.sh)))∧Mod L B w w':=by
 go_enter Tryz.func11,Tryz.ntmps11
 go_wp2_with fail
 refine (markBlocks_any _ _ _ _ xs L B _ ?q1 hx ?q2 hl hn h0 h1 h2).mono ?_
 case q1=>exact ha.out.keep ((balloc (Below.refl _ _) _).mono hB)
 case q2=>exact ht.out.keepS (Same.of_below ((balloc (Below.refl _ _) _).mono hB))
 rintro e w1 ⟨rfl,hiw⟩
 go_wp2
 go_ret
 exact ⟨rfl,(Mod.of_below (balloc (Below.refl _ _) _)).trans (Mod.of_iw hiw)⟩
end Go.Proofs.YthgikffcdgpgiaaGreatDoor

namespace Go.Proofs.YthgikffcdgpgiaaGreatDoor
open Go.RowKit
def ColA (w:World) (L B:Nat) (cd ct:Int) (l:List Int) (G:Value):Prop:=∃a n c,G=.agg #[.int .i64 cd,.slice a n c,.int .i64 ct]∧IntsAt w L B a l∧n=l.length∧n≤5000
theorem ColA.keepS {w w':World} {L B:Nat} {cd ct:Int} {l:List Int} {G:Value} (h:ColA w L B cd ct l G) (k:Same L B w w'):ColA w' L B cd ct l G:=by
 obtain ⟨a,n,c,e,h1,h2⟩:=h
 exact ⟨a,n,c,e,h1.keepS k,h2⟩
theorem ColA.form {w:World} {L B:Nat} {cd ct:Int} {l:List Int} {G:Value} (h:ColA w L B cd ct l G):∃a n c,G=.agg #[.int .i64 cd,.slice a n c,.int .i64 ct]:=by
 obtain ⟨a,n,c,e,_⟩:=h
 exact ⟨a,n,c,e⟩
set_option maxHeartbeats 1000000 in
set_option maxRecDepth 100000 in
theorem eqColA_yes (cd ct:Int) (l:List Int) (G G':Value) (L B L' B':Nat) (w:World) (ha:ColA w L B cd ct l G) (hb:ColA w L' B' cd ct l G') (hB:B≤w.heap.size) (hB':B'≤w.heap.size) :
  Calls Tryz.prog 9 #[G,G'] w fun e w'=>e=.returned (.bool true)∧Below w.heap.size w w':=by
 obtain ⟨a,n,c,rfl,h1,h2,h3⟩:=ha
 obtain ⟨a',n',c',rfl,k1,k2,_⟩:=hb
 obtain rfl:n=n':=by omega
 have HEQ:=hide (fun W (hW:Below w.heap.size w W)=>eqInts_yes a a' n c c' l L B L' B' W (hide (h1.keep (hW.mono hB))) (hide (k1.keep (hW.mono hB'))) (hide h2) (by omega) (by have:=hW.size;omega) (by have:=hW.size;omega))
 have e1:((cd:Int) != cd)=false:=by simp
 have e2:((ct:Int) != ct)=false:=by simp
 clear h1 k1 h2 k2
 go_enter Tryz.func9,Tryz.ntmps9
 go_wp2_with fail
 have hb0:Below w.heap.size w ((w.alloc (.cells #[.int .i64 cd,.slice a n c,.int .i64 ct] 28)).alloc (.cells #[.int .i64 cd,.slice a' n c',.int .i64 ct] 28)):=balloc (balloc (Below.refl _ _) _) _
 have hs0:w.heap.size+2≤((w.alloc (.cells #[.int .i64 cd,.slice a n c,.int .i64 ct] 28)).alloc (.cells #[.int .i64 cd,.slice a' n c',.int .i64 ct] 28)).heap.size:=by simp
 have c2:((w.alloc (.cells #[.int .i64 cd,.slice a n c,.int .i64 ct] 28)).alloc (.cells #[.int .i64 cd,.slice a' n c',.int .i64 ct] 28)).cell? ⟨w.heap.size,2,none⟩=some (.int .i64 ct):=by simp [go_sem]
 have c3:((w.alloc (.cells #[.int .i64 cd,.slice a n c,.int .i64 ct] 28)).alloc (.cells #[.int .i64 cd,.slice a' n c',.int .i64 ct] 28)).cell? ⟨w.heap.size+1,2,none⟩=some (.int .i64 ct):=by simp [go_sem]
 generalize (w.alloc (.cells #[.int .i64 cd,.slice a n c,.int .i64 ct] 28)).alloc (.cells #[.int .i64 cd,.slice a' n c',.int .i64 ct] 28)=w0 at *
 refine (HEQ.out _ hb0).mono ?_
 rintro e w1 ⟨rfl,hb1⟩
 have f2:=(cTr hb1 (by omega)).trans c2
 have f3:=(cTr hb1 (by omega)).trans c3
 have HB1:=hide (bnext hb0 hb1)
 clear hb0 hb1 c2 c3 HEQ
 go_wp2_with fail
 go_ret
 exact ⟨rfl,HB1.out⟩
def MarkC (w:World) (B:Nat) (G:Value):Prop:=∀W,Same B w.heap.size w W→w.heap.size≤W.heap.size→Calls Tryz.prog 12 #[G,.int .i64 1] W fun e w'=>∃m:Nat,e=.returned (.int .i64 m)∧m≤60000000∧Mod B w.heap.size W w'∧W.heap.size≤w'.heap.size∧(Calls Tryz.prog 13 #[G,.int .i64 1] w' fun e w''=>e=.returned (.int .i64 m)∧Below w'.heap.size w' w'')
set_option maxHeartbeats 1000000 in
set_option maxRecDepth 100000 in
theorem markC_any (cd ct:Int) (a:Option Addr) (n c L B:Nat) (xs:List Int) (w:World) (ha:IntsAt w L B a xs) (hx:n=xs.length) (ht:ThawB L B w) (hn:n≤5000) (hB:B≤w.heap.size) :
  Calls Tryz.prog 12 #[.agg #[.int .i64 cd,.slice a n c,.int .i64 ct],.int .i64 1] w fun e w'=>e=.returned (.int .i64 ((1+n:Nat):Int))∧Mod L B w w'∧IntsAt w' L B a (marks 1 n):=by
 have HMK:=hide (fun W (hW:Below w.heap.size w W)=>markInts_any a n c 1 xs L B W (hide (ha.keep (hW.mono hB))) (hide hx) (hide (ht.keepS (fun q _ q2=>hW.block q (by omega)))) (by omega) (by omega) (by omega))
 clear ha hx ht
 go_enter Tryz.func12,Tryz.ntmps12
 go_wp2_with fail
 refine (HMK.out _ (balloc (Below.refl _ _) _)).mono ?_
 rintro e w1 ⟨rfl,hw1,hm1⟩
 have HM1:=hide hm1
 have HB1:Hid (Mod L B w w1):=hide (Mod.trans (Mod.of_below (balloc (Below.refl _ _) _)) (Mod.of_iw hw1))
 clear hw1 hm1 HMK
 go_wp2_with fail
 go_ret
 exact ⟨by simp,HB1.out,HM1.out⟩
set_option maxHeartbeats 1000000 in
set_option maxRecDepth 100000 in
theorem heldC_any (cd ct:Int) (a:Option Addr) (n c L B:Nat) (w:World) (ha:IntsAt w L B a (marks 1 n)) (hn:n≤5000) (hB:B≤w.heap.size) :
  Calls Tryz.prog 13 #[.agg #[.int .i64 cd,.slice a n c,.int .i64 ct],.int .i64 1] w fun e w'=>e=.returned (.int .i64 ((1+n:Nat):Int))∧Below w.heap.size w w':=by
 have HMK:=hide (fun W (hW:Below w.heap.size w W)=>heldInts_any a n c 1 L B W (hide (ha.keep (hW.mono hB))) (by omega) (by omega) (by omega))
 have hnn:¬(1+(n:Int)<0):=by omega
 clear ha
 go_enter Tryz.func13,Tryz.ntmps13
 go_wp2_with fail
 refine (HMK.out _ (balloc (Below.refl _ _) _)).mono ?_
 rintro e w1 ⟨rfl,hw1⟩
 subst hw1
 clear HMK
 go_wp2_with fail
 go_ret
 exact ⟨by simp,balloc (Below.refl _ _) _⟩
theorem markC_of {w:World} {g V c Bm:Nat} {C:Nat→Int} (cd ct:Int) (h:IaAt w g V c C) (hV:V≤5000) (hg:Bm≤g):MarkC w Bm (.agg #[.int .i64 cd,.slice (some ⟨g,0,none⟩) V c,.int .i64 ct]):=fun W hW hz=>by
 have hgl:=h.lt
 have hW':IaAt W g V c C:=h.of_block (hW g hg hgl)
 have hi:IntsAt W g (g+1) (some ⟨g,0,none⟩) ((List.range V).map C):=fun i hi=>by
  simp only [List.length_map,List.length_range] at hi
  refine ⟨g,0,rfl,⟨Nat.le_refl _,Nat.lt_succ_self _⟩,?_⟩
  simp only [List.getElem_map,List.getElem_range,Nat.zero_add]
  exact hW'.cell hi
 refine (markC_any cd ct _ V c g (g+1) _ W hi (by simp) (fun b o hb=>by
  obtain rfl:b=g:=by omega
  exact hW'.frozen o) hV (by omega)).mono ?_
 rintro e w' ⟨rfl,hm,hmk⟩
 refine ⟨1+V,rfl,by omega,⟨hm.os,hm.tape,hm.output,hm.size,fun k hk h2=>hm.block k hk (fun h3=>h2 ⟨by omega,by omega⟩)⟩,hm.size,?_⟩
 exact heldC_any cd ct _ V c g (g+1) w' hmk hV (by have:=hm.size;omega)
theorem markC_nil (w:World) (Bm:Nat) (cd ct:Int):MarkC w Bm (.agg #[.int .i64 cd,.slice none 0 0,.int .i64 ct]):=fun W hW hz=>by
 refine (markC_any cd ct none 0 0 0 0 [] W (fun i hi=>absurd hi (Nat.not_lt_zero _)) rfl (fun b o hb=>absurd hb.2 (Nat.not_lt_zero _)) (by omega) (by omega)).mono ?_
 rintro e w' ⟨rfl,hm,hmk⟩
 refine ⟨1+0,rfl,by omega,⟨hm.os,hm.tape,hm.output,hm.size,fun k hk h2=>hm.block k hk (fun h3=>by omega)⟩,hm.size,?_⟩
 exact heldC_any cd ct none 0 0 0 0 w' hmk (by omega) (by omega)
noncomputable def colC (v:Int) (xs:List Blk):Nat→Int:=ckF (fun _=>-1) (skA xs v.toNat (preP ((List.range xs.length).map (idomP ((List.range xs.length).map (domL (tgN xs) xs.length)))) xs.length 0))
open Classical in
noncomputable def colL (v:Int) (xs:List Blk):List Int:=if verdP v xs=0 then (List.range v.toNat).map (colC v xs) else []
open Classical in
noncomputable def colN (v:Int) (xs:List Blk):Int:=if verdP v xs=0 then ckN (colC v xs) v.toNat else 0
theorem colorS_ans (v:Int) (a:Option Addr) (n c:Nat) (xs:List Blk) (L B:Nat) (w:World) (ha:BlksAt w L B a xs) (hx:n=xs.length) (hs:xs.length+blksTot xs≤1048576) (hB:B≤w.heap.size) :
  Calls Tryz.prog 6 #[.agg #[.int .i64 v,.slice a n c]] w fun e w'=>∃G,e=.returned G∧Below w.heap.size w w'∧ColA w' w.heap.size w'.heap.size (verdP v xs) (colN v xs) (colL v xs) G:=by
 by_cases hv:verdP v xs=0
 ·obtain ⟨hvv,hre⟩:=verd_zero hv
  have h0:0≤v:=by
   unfold validI sizeOk at hvv
   simp only [Bool.and_eq_true,decide_eq_true_eq] at hvv
   exact hvv.1.1.1.1.1.1.1.1
  obtain ⟨V,rfl⟩:=Int.eq_ofNat_of_zero_le h0
  have ho:=okL_of_valid hvv
  have hm:=ho.okf.model
  rw [←hx] at hm
  refine (colorS_any V a n c xs L B w (hide ha) (hide hx) (hide hs) hB (hide hv) (hide hvv) (hide ho)).mono ?_
  rintro e w' ⟨P,g,cap,hP,rfl,hb,hg,hia⟩
  have:=isIdm_one hP hm
  subst this
  refine ⟨_,rfl,hb,?_⟩
  have e1:colC (V:Int) xs=ckF (fun _=>-1) (skA xs V (preP ((List.range n).map (idomP ((List.range n).map (domL (tgN xs) n)))) n 0)):=by unfold colC;rw [hx];rfl
  unfold colN colL
  rw [if_pos hv,if_pos hv,hv,e1]
  refine ⟨some ⟨g,0,none⟩,V,cap,by simp,fun i hi=>?_,by simp,by have:=ho.vle;omega⟩
  simp only [List.length_map,List.length_range,Int.toNat_natCast] at hi
  refine ⟨g,0,rfl,⟨hg,hia.lt⟩,?_⟩
  simp only [List.getElem_map,List.getElem_range,Nat.zero_add]
  exact hia.cell hi
 ·refine (colorS_no v a n c xs L B w (hide ha) (hide hx) (hide hs) hB hv).mono ?_
  rintro e w' ⟨rfl,hb⟩
  unfold colN colL
  rw [if_neg hv,if_neg hv]
  exact ⟨_,rfl,hb,none,0,0,rfl,fun i hi=>absurd hi (Nat.not_lt_zero _),rfl,by omega⟩
theorem colorI_ans (v:Int) (a:Option Addr) (n c:Nat) (xs:List Blk) (L B:Nat) (w:World) (ha:BlksAt w L B a xs) (hx:n=xs.length) (hs:xs.length+blksTot xs≤1048576) (hB:B≤w.heap.size) (hO:OpTabW w) (hT:TerTabW w) (hZ:TzTab w) :
  Calls Tryz.prog 8 #[.agg #[.int .i64 v,.slice a n c]] w fun e w'=>∃G,e=.returned G∧Below w.heap.size w w'∧ColA w' w.heap.size w'.heap.size (verdP v xs) (colN v xs) (colL v xs) G∧MarkC w' w.heap.size G:=by
 by_cases hv:verdP v xs=0
 ·obtain ⟨hvv,hre⟩:=verd_zero hv
  have h0:0≤v:=by
   unfold validI sizeOk at hvv
   simp only [Bool.and_eq_true,decide_eq_true_eq] at hvv
   exact hvv.1.1.1.1.1.1.1.1
  obtain ⟨V,rfl⟩:=Int.eq_ofNat_of_zero_le h0
  have ho:=okL_of_valid hvv
  have hm:=ho.okf.model
  rw [←hx] at hm
  refine (colorI_any V a n c xs L B w _ (hide ha) (hide hx) (hide hs) hB (hide hO) (hide hT) (hide hZ) (hide hv) (hide hm)).mono ?_
  rintro e w' ⟨g,rfl,hb,hg,hia⟩
  refine ⟨_,rfl,hb,?_,markC_of _ _ hia (by have:=ho.vle;omega) hg⟩
  have e1:colC (V:Int) xs=ckF (fun _=>-1) (skA xs V (preP ((List.range n).map (idomP ((List.range n).map (domL (tgN xs) n)))) n 0)):=by unfold colC;rw [hx];rfl
  unfold colN colL
  rw [if_pos hv,if_pos hv,hv,e1]
  refine ⟨some ⟨g,0,none⟩,V,V,by simp,fun i hi=>?_,by simp,by have:=ho.vle;omega⟩
  simp only [List.length_map,List.length_range,Int.toNat_natCast] at hi
  refine ⟨g,0,rfl,⟨hg,hia.lt⟩,?_⟩
  simp only [List.getElem_map,List.getElem_range,Nat.zero_add]
  exact hia.cell hi
 ·refine (colorI_no v a n c xs L B w (hide ha) (hide hx) (hide hs) hB (hide hO) (hide hT) hv).mono ?_
  rintro e w' ⟨rfl,hb⟩
  unfold colN colL
  rw [if_neg hv,if_neg hv]
  exact ⟨_,rfl,hb,⟨none,0,0,rfl,fun i hi=>absurd hi (Nat.not_lt_zero _),rfl,by omega⟩,markC_nil _ _ _ _⟩
end Go.Proofs.YthgikffcdgpgiaaGreatDoor
