import Derived.Test.YthgikffcdgpgiaaGreatDoorCI1
import Derived.Test.YthgikffcdgpgiaaGreatDoorW4
import Derived.Deep.RegionWith
import Derived.Deep.DrawnRows
namespace Go.Proofs.YthgikffcdgpgiaaGreatDoor
open Go.RowKit
attribute [local go_sem ↓] Go.wp_at_zero Go.wp_at_succ
theorem phCnt_totK (ps:List Ph):phCnt (ps.map fun p=>p.args.length)=ps.length+phTot ps:=by
 induction ps with
 | nil=>rfl
 | cons p ps ih =>
  have h1:phCnt ((p::ps).map fun p=>p.args.length)=(p.args.length+1)+phCnt (ps.map fun p=>p.args.length):=by simp [phCnt]
  have h2:phTot (p::ps)=p.args.length+phTot ps:=by simp [phTot]
  rw [h1,h2,ih,List.length_cons]
  omega
theorem shsCnt_leK (xs:List Blk):shsCnt (xs.map Blk.sh)≤5*(xs.length+blksTot xs):=by
 induction xs with
 | nil=>simp [shsCnt]
 | cons x xs ih =>
  have h1:shsCnt ((x::xs).map Blk.sh)=shCnt x.sh+shsCnt (xs.map Blk.sh):=by simp [shsCnt]
  have h2:blksTot (x::xs)=blkTot x+blksTot xs:=by simp [blksTot]
  have h3:shCnt x.sh=phCnt (x.phis.map fun p=>p.args.length)+5*x.instrs.length+4:=rfl
  rw [h1,h2,h3,phCnt_totK,List.length_cons]
  simp only [blkTot]
  omega
set_option maxRecDepth 100000 in
set_option maxHeartbeats 4000000 in
theorem lawK_any (v:Int) (a:Option Addr) (n c:Nat) (xs:List Blk) (w:World) (ha:Hid (BlksAt w 0 w.heap.size a xs)) (hx:Hid (n=xs.length)) (hn:n≤9223372036854775807) (hs:Hid (LenOk xs)) (hO:Hid (OpTabW w)) (hT:Hid (TerTabW w)) (hZ:Hid (TzTab w)) :
  Calls Tryz.prog 3 #[.agg #[.int .i64 v,.slice a n c]] w fun e w'=>e=.returned (.bool true)∧Below w.heap.size w w':=by
 by_cases hbig:(1048576:Int)<(n+blksTot xs:Nat)
 ·have hz:=szR_neg hbig
  go_enter Tryz.func3,Tryz.ntmps3
  go_wp2_with (go_at_call 5;refine (szFunc_any _ _ _ _ _ xs 0 w.heap.size _ (ha.out.keep (balloc (Below.refl _ _) _)) hx hn hs (by omega) (by omega) (by simp)).mono ?_;rintro e w1 ⟨rfl,hb1⟩)
  go_ret
  exact ⟨rfl,bnext (balloc (Below.refl _ _) _) hb1⟩
 ·have hz:szR 1048576 (n+blksTot xs)=1048576-(n+blksTot xs:Nat):=szR_pos (by omega)
  have hnn:n≤1048576:=by omega
  have htot:Hid (xs.length+blksTot xs≤1048576):=by have:=hx.out;show _≤_;omega
  have hlen:=hide (len_of_tot htot.out)
  have hnon:(0:Int)≤1048576-(n+blksTot xs:Nat):=by omega
  generalize hN:n+blksTot xs=N at *
  have HN:=hide hN
  clear hN hbig
  obtain ⟨cd,hcd⟩:∃cd,cd=verdP v xs:=⟨_,rfl⟩
  obtain ⟨ct,hct⟩:∃ct,ct=colN v xs:=⟨_,rfl⟩
  obtain ⟨lst,hlst⟩:∃l,l=colL v xs:=⟨_,rfl⟩
  have HSA:=hide (fun a' c' L B W h1 h2=>colorS_ans v a' n c' xs L B W h1 hx.out htot.out h2)
  have HIA:=hide (fun a' c' L B W h1 h2 h3 h4 h5=>colorI_ans v a' n c' xs L B W h1 hx.out htot.out h2 h3 h4 h5)
  rw [←hcd,←hct,←hlst] at HSA HIA
  clear hcd hct hlst
  go_enter Tryz.func3,Tryz.ntmps3
  go_wp2_with fail
  refine (szFunc_any _ _ _ _ _ xs 0 w.heap.size _ ?q1 hx hn hs (by omega) (by omega) (by simp)).mono ?_
  case q1=>exact ha.out.keep (balloc (Below.refl _ _) _)
  rintro e w1 ⟨rfl,hb1⟩
  rw [unhide HN,hz]
  obtain ⟨hc1,hf1⟩:=bcell hb1
  have k0:w1.cell? ⟨w.heap.size,0,none⟩=some (.int .i64 v):=by rw [hc1 _ _ (by simp)];simp
  have k1:w1.cell? ⟨w.heap.size,1,none⟩=some (.slice a n c):=by rw [hc1 _ _ (by simp)];simp
  have B1:=bnext (balloc (Below.refl w.heap.size w) _) hb1
  have hz1:=hb1.size
  simp at hz1
  have HA:=hide (ha.out.keep B1)
  have HB1:=hide B1
  clear hc1 hf1 hb1 B1 hz
  go_wp2_with fail
  refine (toFunc_any v a n c xs 0 w.heap.size _ HA hx hlen hnn (by omega)).mono ?_
  rintro e w2 ⟨a2,c2,rfl,hb2,hi2,_⟩
  have HI2:=hide hi2
  have k0':=(cTr hb2 (by omega)).trans k0
  have k1':=(cTr hb2 (by omega)).trans k1
  have hz2:=hb2.size
  have HB2:=hide (bnext HB1.out hb2)
  clear hi2 hb2 k0 k1 HA
  go_wp2_with fail
  refine (HSA.out a2 c2 w1.heap.size w2.heap.size _ HI2.out (Nat.le_refl _)).mono ?_
  rintro e w3 ⟨G0,rfl,hb3,hf3⟩
  obtain ⟨r1,m1,s1,rfl⟩:=hf3.form
  have HF3:=hide hf3
  have q0:=(cTr hb3 (by omega)).trans k0'
  have q1:=(cTr hb3 (by omega)).trans k1'
  have hz3:=hb3.size
  have HB3:=hide (bnext HB2.out hb3)
  have hl3:w.heap.size<w3.heap.size:=by omega
  clear hb3 k0' k1' hf3 HI2
  have HB3b:=hide (balloc HB3.out (.cells #[.int .i64 cd,.slice r1 m1 s1,.int .i64 ct] 28))
  have HF3b:=hide (HF3.out.keepS (Same.of_below (balloc (Below.refl w3.heap.size w3) (.cells #[.int .i64 cd,.slice r1 m1 s1,.int .i64 ct] 28))))
  have HX3:Hid ((w3.alloc (.cells #[.int .i64 cd,.slice r1 m1 s1,.int .i64 ct] 28)).cell? ⟨w3.heap.size,0,none⟩=some (.int .i64 cd)∧(w3.alloc (.cells #[.int .i64 cd,.slice r1 m1 s1,.int .i64 ct] 28)).cell? ⟨w3.heap.size,1,none⟩=some (.slice r1 m1 s1)∧(w3.alloc (.cells #[.int .i64 cd,.slice r1 m1 s1,.int .i64 ct] 28)).cell? ⟨w3.heap.size,2,none⟩=some (.int .i64 ct)):=hide (by simp [go_sem])
  have HQ3:Hid (∀o,(w3.alloc o).cell? ⟨w.heap.size,0,none⟩=some (.int .i64 v)∧(w3.alloc o).cell? ⟨w.heap.size,1,none⟩=some (.slice a n c)):=hide (fun o=>⟨(World.cell?_alloc_lt w3 o ⟨w.heap.size,0,none⟩ hl3).trans q0,(World.cell?_alloc_lt w3 o ⟨w.heap.size,1,none⟩ hl3).trans q1⟩)
  have hz3b:(w3.alloc (.cells #[.int .i64 cd,.slice r1 m1 s1,.int .i64 ct] 28)).heap.size=w3.heap.size+1:=by simp
  go_wp2_with fail
  have HC3:=hide (HQ3.out (.cells #[.int .i64 cd,.slice r1 m1 s1,.int .i64 ct] 28))
  generalize w3.alloc (.cells #[.int .i64 cd,.slice r1 m1 s1,.int .i64 ct] 28)=wb at *
  have hzb:w3.heap.size+1≤wb.heap.size:=by omega
  have HZB:=hide hz3b
  clear hz3b q0 q1 HQ3 HF3
  refine (toFunc_any v a n c xs 0 w.heap.size _ (ha.out.keep HB3b.out) hx hlen hnn (by omega)).mono ?_
  rintro e w4 ⟨a4,c4,rfl,hb4,hi4,ht4⟩
  have HI4:=hide hi4
  have HT4:=hide ht4
  have HC4:Hid (w4.cell? ⟨w.heap.size,0,none⟩=some (.int .i64 v)∧w4.cell? ⟨w.heap.size,1,none⟩=some (.slice a n c)):=hide ⟨(hb4.cell (p:=⟨w.heap.size,0,none⟩) (by show w.heap.size<_;omega)).trans HC3.out.1,(hb4.cell (p:=⟨w.heap.size,1,none⟩) (by show w.heap.size<_;omega)).trans HC3.out.2⟩
  have HX4:Hid (w4.heap[w3.heap.size]?=wb.heap[w3.heap.size]?):=hide (hb4.block _ (by omega))
  have hz4:=hb4.size
  have HB4:=hide (bnext HB3b.out hb4)
  have HF4:=hide (HF3b.out.keepS (fun k _ h2=>hb4.block k (by omega)))
  clear hi4 hb4 ht4 HF3b HC3
  have HP4:=hide (balloc (Below.refl w4.heap.size w4) (.cells #[.int .i64 v,.slice a4 n c4] 32))
  have HXX:Hid ((w4.alloc (.cells #[.int .i64 v,.slice a4 n c4] 32)).cell? ⟨w4.heap.size,0,none⟩=some (.int .i64 v)∧(w4.alloc (.cells #[.int .i64 v,.slice a4 n c4] 32)).cell? ⟨w4.heap.size,1,none⟩=some (.slice a4 n c4)):=hide (by simp [go_sem])
  have hz4b:(w4.alloc (.cells #[.int .i64 v,.slice a4 n c4] 32)).heap.size=w4.heap.size+1:=by simp
  go_wp2_with fail
  generalize w4.alloc (.cells #[.int .i64 v,.slice a4 n c4] 32)=wc at *
  have hzc:w4.heap.size+1≤wc.heap.size:=by omega
  have HZC:=hide hz4b
  clear hz4b
  have HBc:=hide (bnext HB4.out HP4.out)
  refine (HIA.out a4 c4 wb.heap.size w4.heap.size wc (HI4.out.keep HP4.out) (by omega) (hO.out.keep HBc.out hO.out.1) (hT.out.keep HBc.out hT.out.1) (hZ.out.of_block (HBc.out.block _ (World.block_lt_of_cell? w _ (hZ.out 0 (by decide)))))).mono ?_
  rintro e w5 ⟨G1,rfl,hb5,hf5,hm5⟩
  obtain ⟨t1,n1,y1,rfl⟩:=hf5.form
  have HF5:=hide hf5
  have HM5:=hide hm5
  have HB45:=hide (bnext HP4.out hb5)
  have HBL:=hide hb5
  have hz5:=hb5.size
  have HY5:Hid (w5.cell? ⟨w4.heap.size,0,none⟩=some (.int .i64 v)∧w5.cell? ⟨w4.heap.size,1,none⟩=some (.slice a4 n c4)):=hide ⟨(hb5.cell (p:=⟨w4.heap.size,0,none⟩) (by show w4.heap.size<_;omega)).trans HXX.out.1,(hb5.cell (p:=⟨w4.heap.size,1,none⟩) (by show w4.heap.size<_;omega)).trans HXX.out.2⟩
  clear hf5 hm5 hb5 HXX
  have hl5:w3.heap.size<w5.heap.size:=by omega
  have x3:Hid (∀i,w5.cell? ⟨w3.heap.size,i,none⟩=wb.cell? ⟨w3.heap.size,i,none⟩):=hide (fun i=>(HB45.out.cell (p:=⟨w3.heap.size,i,none⟩) (by show w3.heap.size<_;omega)).trans (cell_of HX4.out))
  have z0:=(x3.out 0).trans HX3.out.1
  have z1:=(x3.out 1).trans HX3.out.2.1
  have z2:=(x3.out 2).trans HX3.out.2.2
  obtain ⟨wd,hwd⟩:∃wd,wd=w5.alloc (.cells #[.int .i64 cd,.slice t1 n1 y1,.int .i64 ct] 28):=⟨_,rfl⟩
  have HB5d:Hid (Below w5.heap.size w5 wd):=hide (by rw [hwd];exact balloc (Below.refl _ _) _)
  have hzd:wd.heap.size=w5.heap.size+1:=by rw [hwd];simp
  have HGD:Hid (wd.cell? ⟨w5.heap.size,0,none⟩=some (.int .i64 cd)∧wd.cell? ⟨w5.heap.size,1,none⟩=some (.slice t1 n1 y1)∧wd.cell? ⟨w5.heap.size,2,none⟩=some (.int .i64 ct)):=hide (by rw [hwd];simp [go_sem])
  have HCD:Hid (∀b i,b<w5.heap.size→wd.cell? ⟨b,i,none⟩=w5.cell? ⟨b,i,none⟩):=hide (fun b i h=>HB5d.out.cell (p:=⟨b,i,none⟩) h)
  have HC5:Hid (w5.cell? ⟨w.heap.size,0,none⟩=some (.int .i64 v)∧w5.cell? ⟨w.heap.size,1,none⟩=some (.slice a n c)):=hide ⟨(HB45.out.cell (p:=⟨w.heap.size,0,none⟩) (by show w.heap.size<_;omega)).trans HC4.out.1,(HB45.out.cell (p:=⟨w.heap.size,1,none⟩) (by show w.heap.size<_;omega)).trans HC4.out.2⟩
  have HFA:Hid (∀W,(∀k,k<wd.heap.size→¬(wb.heap.size≤k∧k<w4.heap.size)→¬(wc.heap.size≤k∧k<w5.heap.size)→W.heap[k]?=wd.heap[k]?)→(W.cell? ⟨w.heap.size,0,none⟩=some (.int .i64 v)∧W.cell? ⟨w.heap.size,1,none⟩=some (.slice a n c))∧(W.cell? ⟨w3.heap.size,0,none⟩=some (.int .i64 cd)∧W.cell? ⟨w3.heap.size,1,none⟩=some (.slice r1 m1 s1)∧W.cell? ⟨w3.heap.size,2,none⟩=some (.int .i64 ct))∧(W.cell? ⟨w4.heap.size,0,none⟩=some (.int .i64 v)∧W.cell? ⟨w4.heap.size,1,none⟩=some (.slice a4 n c4))∧(W.cell? ⟨w5.heap.size,0,none⟩=some (.int .i64 cd)∧W.cell? ⟨w5.heap.size,1,none⟩=some (.slice t1 n1 y1)∧W.cell? ⟨w5.heap.size,2,none⟩=some (.int .i64 ct))∧ColA W w2.heap.size w3.heap.size cd ct lst (.agg #[.int .i64 cd,.slice r1 m1 s1,.int .i64 ct])):=hide (fun W hW=>by
   have k0:=hW w.heap.size (by omega) (by omega) (by omega)
   have k3:=hW w3.heap.size (by omega) (by omega) (by omega)
   have k4:=hW w4.heap.size (by omega) (by omega) (by omega)
   have k5:=hW w5.heap.size (by omega) (by omega) (by omega)
   refine ⟨⟨(cell_of k0).trans ((HCD.out _ 0 (by omega)).trans HC5.out.1),(cell_of k0).trans ((HCD.out _ 1 (by omega)).trans HC5.out.2)⟩,⟨(cell_of k3).trans ((HCD.out _ 0 (by omega)).trans z0),(cell_of k3).trans ((HCD.out _ 1 (by omega)).trans z1),(cell_of k3).trans ((HCD.out _ 2 (by omega)).trans z2)⟩,⟨(cell_of k4).trans ((HCD.out _ 0 (by omega)).trans HY5.out.1),(cell_of k4).trans ((HCD.out _ 1 (by omega)).trans HY5.out.2)⟩,⟨(cell_of k5).trans HGD.out.1,(cell_of k5).trans HGD.out.2.1,(cell_of k5).trans HGD.out.2.2⟩,?_⟩
   exact HF4.out.keepS (fun k _ h2=>(hW k (by omega) (by omega) (by omega)).trans ((HB5d.out.block k (by omega)).trans (HB45.out.block k (by omega)))))
  have HFD:Hid (ColA wd wc.heap.size w5.heap.size cd ct lst (.agg #[.int .i64 cd,.slice t1 n1 y1,.int .i64 ct])):=hide (HF5.out.keepS (Same.of_below HB5d.out))
  have HBD:Hid (Below w.heap.size w wd):=hide (bnext (bnext HB4.out HB45.out) HB5d.out)
  have HXD:Hid (BlksAt wd wb.heap.size w4.heap.size a4 xs):=hide ((HI4.out.keep HB45.out).keep (HB5d.out.mono (by have:=HB45.out.size;omega)))
  have HTD:Hid (ThawB wb.heap.size w4.heap.size wd):=hide ((ThawB.of HT4.out).keepS (fun k _ h2=>(HB5d.out.block k (by omega)).trans (HB45.out.block k h2)))
  have HMD:Hid (MarkC w5 wc.heap.size (.agg #[.int .i64 cd,.slice t1 n1 y1,.int .i64 ct])):=HM5
  have HEQ:=hide (eqColA_yes cd ct lst _ _ wc.heap.size w5.heap.size w2.heap.size w3.heap.size wd HFD.out (HFA.out wd (fun _ _ _ _=>rfl)).2.2.2.2 (by omega) (by omega))
  go_wp2_with fail
  rw [←hwd]
  clear hwd
  clear z0 z1 z2
  refine HEQ.out.mono ?_
  rintro e w6 ⟨rfl,hb6⟩
  have HB6:=hide hb6
  have hz6:=hb6.size
  have HA6:=hide (HFA.out w6 (fun k h _ _=>hb6.block k h))
  obtain ⟨⟨d0,d1⟩,_,⟨d2,d3⟩,_,_⟩:=HFA.out w6 (fun k h _ _=>hb6.block k h)
  have HBw6:=hide (bnext HBD.out hb6)
  have HX6:=hide (HXD.out.keep (hb6.mono (by omega)))
  clear hb6 HEQ
  go_wp2
  go_region_with (first | (go_at_call 7;refine (toFunc_any v a n c xs 0 w.heap.size _ (ha.out.keep HBw6.out.drew) hx hlen hnn (by show w.heap.size≤w6.heap.size;omega)).mono ?_;rintro e w7 ⟨a7,c7,rfl,hb7,hi7,ht7⟩;clear ht7;have HI7:=hide hi7;clear hi7;have u0:=(hb7.cell (p:=⟨w4.heap.size,0,none⟩) (by show w4.heap.size<w6.heap.size;omega)).trans d2;have u1:=(hb7.cell (p:=⟨w4.heap.size,1,none⟩) (by show w4.heap.size<w6.heap.size;omega)).trans d3) | (go_at_call 10;refine (eqFunc_yes v _ _ _ _ _ xs wb.heap.size w4.heap.size w6.heap.size w7.heap.size _ (HX6.out.keep ((Below.refl w4.heap.size w6).drew.trans (hb7.mono (by show w4.heap.size≤w6.heap.size;omega)))) HI7 hx hlen hnn (by have:=hb7.size;have:w6.heap.size≤w7.heap.size:=this;omega) (Nat.le_refl _)).mono ?_;rintro e w8 ⟨rfl,hb8⟩))
  all_goals
   have HB8:=hide (bnext (bnext HB6.out.drew hb7) hb8)
   have hz8:wd.heap.size≤w8.heap.size:=HB8.out.size
   obtain ⟨_,_,⟨p2,p3⟩,_,_⟩:=HFA.out w8 (fun k h _ _=>HB8.out.block k h)
   clear hb7 hb8 d0 d1 d2 d3
   have HX8:Hid (BlksAt w8 wb.heap.size w4.heap.size a4 xs):=hide (HXD.out.keepS (fun k _ h2=>HB8.out.block k (by omega)))
   have HT8:Hid (ThawB wb.heap.size w4.heap.size w8):=hide (HTD.out.keepS (fun k _ h2=>HB8.out.block k (by omega)))
   have hsc:shsCnt (xs.map Blk.sh)≤10000000:=by have:=shsCnt_leK xs;have:=htot.out;omega
   go_wp2_with fail
   refine (markFunc_any v a4 n c4 1 xs wb.heap.size w4.heap.size _ HX8 hx HT8 hlen (by omega) hnn (by omega) (by omega) hsc).mono ?_
   generalize shsCnt (xs.map Blk.sh)=SC at *
   rintro e w9 ⟨rfl,hm9⟩
   have hz9:=hm9.size
   have HA9:Hid (∀k,k<wd.heap.size→¬(wb.heap.size≤k∧k<w4.heap.size)→w9.heap[k]?=wd.heap[k]?):=hide (fun k h1 h2=>(hm9.block k (by omega) h2).trans (HB8.out.block k h1))
   have HB9:Hid (Below w.heap.size w w9):=hide (hm9.below (bnext HBD.out HB8.out) (by omega))
   obtain ⟨_,⟨z0,z1,z2⟩,_,⟨g0,g1,g2⟩,hf9⟩:=HFA.out w9 (fun k h1 h2 _=>HA9.out k h1 h2)
   have HF9:=hide hf9
   have HG9:Hid (ColA w9 wc.heap.size w5.heap.size cd ct lst (.agg #[.int .i64 cd,.slice t1 n1 y1,.int .i64 ct])):=hide (HFD.out.keepS (fun k h1 h2=>HA9.out k (by omega) (by omega)))
   have HEQ:=hide (eqColA_yes cd ct lst _ _ wc.heap.size w5.heap.size w2.heap.size w3.heap.size w9 HG9.out HF9.out (by omega) (by omega))
   have hkp:¬(1+(SC:Int)<0):=by omega
   clear hm9 hf9 p2 p3
   go_wp2_with fail
   refine HEQ.out.mono ?_
   rintro e w10 ⟨rfl,hb10⟩
   have hz10:=hb10.size
   have HA10:Hid (∀k,k<wd.heap.size→¬(wb.heap.size≤k∧k<w4.heap.size)→w10.heap[k]?=wd.heap[k]?):=hide (fun k h1 h2=>(hb10.block k (by omega)).trans (HA9.out k h1 h2))
   have HB10:=hide (bnext HB9.out hb10)
   have HMK:=hide (HMD.out w10 (fun k h1 h2=>(HA10.out k (by omega) (by omega)).trans (HB5d.out.block k (by omega))) (by omega))
   clear hb10 HEQ z0 z1 z2 g0 g1 g2 HF9 HG9
   obtain ⟨_,_,_,⟨g0,g1,g2⟩,_⟩:=HFA.out w10 (fun k h1 h2 _=>HA10.out k h1 h2)
   go_wp2_with fail
   refine HMK.out.mono ?_
   rintro e w11 ⟨m,rfl,hm,hmd,hz11,hheld⟩
   have HHE:=hide hheld
   have HA11:Hid (∀k,k<wd.heap.size→¬(wb.heap.size≤k∧k<w4.heap.size)→¬(wc.heap.size≤k∧k<w5.heap.size)→w11.heap[k]?=wd.heap[k]?):=hide (fun k h1 h2 h3=>(hmd.block k (by omega) h3).trans (HA10.out k h1 h2))
   have HB11:Hid (Below w.heap.size w w11):=hide (hmd.below HB10.out (by omega))
   clear hmd hheld HMK g0 g1 g2
   obtain ⟨_,_,_,⟨g0,g1,g2⟩,_⟩:=HFA.out w11 HA11.out
   go_wp2_with fail
   refine HHE.out.mono ?_
   rintro e w12 ⟨rfl,hb12⟩
   have hz12:=hb12.size
   have HA12:Hid (∀k,k<wd.heap.size→¬(wb.heap.size≤k∧k<w4.heap.size)→¬(wc.heap.size≤k∧k<w5.heap.size)→w12.heap[k]?=wd.heap[k]?):=hide (fun k h1 h2 h3=>(hb12.block k (by omega)).trans (HA11.out k h1 h2 h3))
   have HB12:=hide (bnext HB11.out hb12)
   have hm0:¬((m:Int)<0):=by omega
   have hmm:((m:Int) != (m:Int))=false:=by simp
   clear hb12 HHE g0 g1 g2
   obtain ⟨⟨e0,e1⟩,_,_,_,_⟩:=HFA.out w12 HA12.out
   go_wp2_with fail
   refine (toFunc_any v a n c xs 0 w.heap.size _ (ha.out.keep HB12.out) hx hlen hnn (by omega)).mono ?_
   rintro e w13 ⟨a13,c13,rfl,hb13,hi13,ht13⟩
   have HI13:=hide hi13
   have hz13:=hb13.size
   have HA13:Hid (∀k,k<wd.heap.size→¬(wb.heap.size≤k∧k<w4.heap.size)→¬(wc.heap.size≤k∧k<w5.heap.size)→w13.heap[k]?=wd.heap[k]?):=hide (fun k h1 h2 h3=>(hb13.block k (by omega)).trans (HA12.out k h1 h2 h3))
   have HB13:=hide (bnext HB12.out hb13)
   clear hb13 hi13 ht13 e0 e1
   go_wp2_with fail
   refine (HIA.out a13 c13 w12.heap.size w13.heap.size w13 HI13.out (Nat.le_refl _) (hO.out.keep HB13.out hO.out.1) (hT.out.keep HB13.out hT.out.1) (hZ.out.of_block (HB13.out.block _ (World.block_lt_of_cell? w _ (hZ.out 0 (by decide)))))).mono ?_
   rintro e w14 ⟨G2,rfl,hb14,hf14,_⟩
   obtain ⟨o1,l1,j1,rfl⟩:=hf14.form
   have hz14:=hb14.size
   have HB14:=hide (bnext HB13.out hb14)
   have HA14:Hid (∀k,k<wd.heap.size→¬(wb.heap.size≤k∧k<w4.heap.size)→¬(wc.heap.size≤k∧k<w5.heap.size)→w14.heap[k]?=wd.heap[k]?):=hide (fun k h1 h2 h3=>(hb14.block k (by omega)).trans (HA13.out k h1 h2 h3))
   obtain ⟨we,hwe⟩:∃we,we=w14.alloc (.cells #[.int .i64 cd,.slice o1 l1 j1,.int .i64 ct] 28):=⟨_,rfl⟩
   have HBe:Hid (Below w14.heap.size w14 we):=hide (by rw [hwe];exact balloc (Below.refl _ _) _)
   have hze:=HBe.out.size
   have hfe:=(HFA.out we (fun k h1 h2 h3=>(HBe.out.block k (by omega)).trans (HA14.out k h1 h2 h3))).2.2.2.2
   have HEQ:=hide (eqColA_yes cd ct lst _ _ w13.heap.size w14.heap.size w2.heap.size w3.heap.size we (hf14.keepS (Same.of_below HBe.out)) hfe (by omega) (by omega))
   obtain ⟨_,⟨z0,z1,z2⟩,_,_,_⟩:=HFA.out w14 HA14.out
   have hl14:w3.heap.size<w14.heap.size:=by omega
   clear hb14 hf14 hfe
   go_wp2_with fail
   rw [←hwe]
   refine HEQ.out.mono ?_
   rintro e w15 ⟨rfl,hb15⟩
   have HB15:=hide (bnext (bnext HB14.out HBe.out) hb15)
   clear hb15 HEQ hwe
   go_wp2_with fail
   go_ret
   exact ⟨rfl,HB15.out⟩
end Go.Proofs.YthgikffcdgpgiaaGreatDoor
