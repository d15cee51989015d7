import Derived.Test.YtdfdmjcngkfciaaDoorDM4
import Derived.Test.YtdfdmjcngkfciaaDoorPO1
import Derived.Test.YtdfdmjcngkfciaaDoorRC2
import Derived.Test.YtdfdmjcngkfciaaDoorDO1
import Derived.Deep.RegionHeld3
namespace Go.Proofs.YtdfdmjcngkfciaaDoor
open Go.RowKit
structure DmI (w w2 wr:World) (n A0 A1 M0 M1:Nat) (P:Nat→List Int):Prop where
 bel:Below w.heap.size w wr
 sz:w2.heap.size≤wr.heap.size
 fb:wr.heap[w.heap.size]?=w2.heap[w.heap.size]?
 same:Same A0 A1 w2 wr
 rows:∃U,RowsS wr (w.heap.size+1) n P U∧∀i g,i<n→(U i).ownBlock=some g→(g<A0∨A1≤g)∧(g<M0∨M1≤g)
section
variable {w w2 wr wr' : World} {n A0 A1 M0 M1 : Nat} {P : Nat → List Int}
theorem DmI.below (h:DmI w w2 wr n A0 A1 M0 M1 P) (k:Below wr.heap.size wr wr') (hf:w.heap.size<wr.heap.size) (hA:A1≤w2.heap.size):DmI w w2 wr' n A0 A1 M0 M1 P:=by
 obtain ⟨U,hU,hav⟩:=h.rows
 have:=h.sz
 exact ⟨bnext h.bel k,Nat.le_trans h.sz k.size,(k.block _ hf).trans h.fb,fun q q1 q2=>(k.block q (by omega)).trans (h.same q q1 q2),U,hU.below k,hav⟩
theorem DmI.fresh (h:DmI w w2 wr n A0 A1 0 0 P) (M1:Nat):DmI w w2 wr n A0 A1 wr.heap.size M1 P:=by
 obtain ⟨U,hU,hav⟩:=h.rows
 exact ⟨h.bel,h.sz,h.fb,h.same,U,hU,fun i g hi e=>⟨(hav i g hi e).1,Or.inl ((hU.2.1 i hi).lt g e).2⟩⟩
theorem DmI.forget (h:DmI w w2 wr n A0 A1 M0 M1 P):DmI w w2 wr n A0 A1 0 0 P:=by
 obtain ⟨U,hU,hav⟩:=h.rows
 exact ⟨h.bel,h.sz,h.fb,h.same,U,hU,fun i g hi e=>⟨(hav i g hi e).1,Or.inr (Nat.zero_le _)⟩⟩
theorem DmI.congr {P':Nat→List Int} (h:DmI w w2 wr n A0 A1 M0 M1 P) (e:∀i,i<n→P i=P' i):DmI w w2 wr n A0 A1 M0 M1 P':=by
 obtain ⟨U,hU,hav⟩:=h.rows
 exact ⟨h.bel,h.sz,h.fb,h.same,U,hU.congr e,hav⟩
theorem DmI.grown {M:Nat} (h:DmI w w2 wr n A0 A1 M0 M1 P) (k:wr.grownBy wr' (some M)) (hM:M0≤M∧M<M1) (hA:A1≤M0) (hf:w.heap.size+1<M0) (hw:w.heap.size+1<wr.heap.size) (hA2:A1≤w2.heap.size):DmI w w2 wr' n A0 A1 M0 M1 P:=by
 obtain ⟨U,hU,hav⟩:=h.rows
 have hsz:=h.sz
 refine ⟨h.bel.grown k (by omega) (fun q e=>by cases e;omega),Nat.le_trans h.sz k.size,(k.block _ (by omega) (fun e=>by injection e with e;omega)).trans h.fb,fun q q1 q2=>(k.block q (by omega) (fun e=>by injection e with e;omega)).trans (h.same q q1 q2),U,⟨hU.1.of_block (k.block _ hw (fun e=>by injection e with e;omega)),fun i hi=>?_,hU.2.2⟩,hav⟩
 refine (hU.2.1 i hi).kept k ?_
 cases e:(U i).ownBlock with
 | none=>exact Or.inl rfl
 | some g=>exact Or.inr (fun e2=>by injection e2 with e2;have:=(hav i g hi e).2;omega)
theorem DmI.push {w1:World} {ob:Obj} {t:Nat} {x:Int} {v':Value} {U:Nat→Value} (h:DmI w w2 wr n A0 A1 M0 M1 P) (hU:RowsS wr (w.heap.size+1) n P U) (hav:∀i g,i<n→(U i).ownBlock=some g→(g<A0∨A1≤g)∧(g<M0∨M1≤g)) (ht:t<n) (hg:(wr.alloc ob).grownBy w1 (U t).ownBlock) (ho:w1.ownsRow (w.heap.size+1+1) 2 1 v' ((P t).length+1) ((P t).map (Value.int .i64)++[.int .i64 x])) (hat:v'.ownBlock=(U t).ownBlock∨v'.ownBlock=some (wr.heap.size+1)) (hA:A1≤w2.heap.size) (hM:M1≤wr.heap.size) (hA0:w.heap.size+1<A0) (hM0:w.heap.size+1<M0) :
  DmI w w2 (w1.setCell ⟨w.heap.size+1,t,none⟩ v') n A0 A1 M0 M1 (fun i=>if i=t then P t++[x] else P i)∧Same M0 M1 wr (w1.setCell ⟨w.heap.size+1,t,none⟩ v')∧w1.cell? ⟨w.heap.size+1,t,none⟩=some (U t)∧w1.frozen? ⟨w.heap.size+1,t,none⟩=false:=by
 have hsz:=h.sz
 have hGl:=hU.1.lt
 have hgs:=hg.size
 have has:(wr.alloc ob).heap.size=wr.heap.size+1:=World.size_alloc _ _
 have hal:∀k,k<wr.heap.size→(wr.alloc ob).heap[k]?=wr.heap[k]?:=fun k hk=>Below.heap_alloc _ _ _ hk
 have hst:=(hU.alloc ob).step ht x v' hg ho (by rw [has];exact hat)
 have hbk:∀k,k<wr.heap.size→k≠w.heap.size+1→some k≠(U t).ownBlock→(w1.setCell ⟨w.heap.size+1,t,none⟩ v').heap[k]?=wr.heap[k]?:=fun k h1 h2 h3=>(Below.heap_setCell _ _ _ _ h2).trans ((hg.block k (by omega) h3).trans (hal k h1))
 have hnu:∀k,k≤w.heap.size+1→some k≠(U t).ownBlock:=fun k hk e=>by have:=((hU.2.1 t ht).lt k e.symm).1;omega
 have hbG:w1.heap[w.heap.size+1]?=wr.heap[w.heap.size+1]?:=(hg.block _ (by omega) (hnu _ (Nat.le_refl _))).trans (hal _ hGl)
 refine ⟨⟨?_,by rw [size_setCell];omega,(hbk _ (by omega) (by omega) (hnu _ (by omega))).trans h.fb,fun q q1 q2=>(hbk q (by omega) (by omega) (fun e=>by have:=(hav t q ht e.symm).1;omega)).trans (h.same q q1 q2),_,hst,fun i g hi e=>?_⟩,fun q q1 q2=>hbk q (by omega) (by omega) (fun e=>by have:=(hav t q ht e.symm).2;omega),(cell_of hbG).trans (hU.1.cell ht),(World.frozen?_of_block hbG).trans (hU.1.frozen t)⟩
 ·exact ⟨hg.os.trans h.bel.os,hg.tape.trans h.bel.tape,hg.output.trans h.bel.output,by rw [size_setCell];omega,fun k hk=>(hbk k (by omega) (by omega) (hnu k (by omega))).trans (h.bel.block k hk)⟩
 ·by_cases e1:i=t
  ·subst e1
   simp only [if_true] at e
   rcases hat with q | q
   ·exact hav i g hi (by rw [←q];exact e)
   ·rw [q] at e
    have:=Option.some.inj e
    omega
  ·simp only [e1,if_false] at e
   exact hav i g hi e
end
set_option maxHeartbeats 4000000 in
set_option maxRecDepth 100000 in
theorem doms_any (v:Int) (a:Option Addr) (n c:Nat) (xs:List Blk) (L B:Nat) (w:World) (ha:Hid (BlksAt w L B a xs)) (hx:Hid (n=xs.length)) (hB:B≤w.heap.size) (hok:Hid (OkF xs)) :
  Calls Tryd.prog 46 #[.agg #[.int .i64 v,.slice a n c]] w fun e w'=>∃a' c',e=.returned (.slice a' n c')∧Below w.heap.size w w'∧IntssAt w' w.heap.size w'.heap.size a' ((List.range n).map fun b:Nat=>natI (domL (tgN xs) n b)):=by
 obtain ⟨i0,hi0,hz0,hz1,hz2'⟩:=info_three Tryd.info2'
 have hn2:n≤1000:=by have:=hok.out.n2;have:=hx.out;omega
 have hn1:0<n:=by have:=hok.out.n1;have:=hx.out;omega
 have HRE:Hid (∀x,Re (tgN xs) x→x<n):=hide (by rw [hx.out];exact hok.out.re)
 have HRC:=hide (fun W (hb:Below w.heap.size w W) z=>reach_any v a n c z xs L B W (hide (ha.out.keep (hb.mono hB))) hx hn2 hn1 (by have:=hb.size;omega) (hide (by rw [hx.out];exact hok.out.tgt)))
 have hmk:=run_makeS (P:=Tryd.prog) 27 60 (.agg #[.slice none 0 0]) 1 24 Tryd.underlying27 Tryd.infoSetI n (by omega) (by omega)
 have hmc:madeCells (Value.agg #[.slice none 0 0]).cells (n*1)=madeCells #[.slice none 0 0] n:=by rw [Nat.mul_one];rfl
 rw [hmc] at hmk
 have hmb:=run_make_row' (P:=Tryd.prog) 28 4 (.bool false) 1 Tryd.underlying28 Tryd.infoBo rfl .i64 .i64 n (by omega) (by omega)
 clear hmc
 go_enter Tryd.func46,Tryd.ntmps46
 go_wp2_with fail
 refine (HRC.out _ (balloc (balloc (Below.refl _ _) _) _) (-1)).mono ?_
 rintro e w2 ⟨v2,F,rfl,hb2,ho2,hnd2,hm2⟩
 obtain ⟨a2,c2,rfl,hi2⟩:=ints_owned (xs:=natI F) (by rw [←natV_natI];exact ho2)
 have HM2:Hid (∀x,x∈F↔Re (tgN xs) x):=hide (fun x=>(hm2 x).trans (avz_neg (by decide)))
 have HND:=hide hnd2
 have hlF:(natI F).length≤1000:=by rw [natI_len];exact Nat.le_trans (nodup_le hnd2 (fun x hx=>HRE.out x ((HM2.out x).1 hx))) hn2
 have hz2:w.heap.size+2≤w2.heap.size:=by have:=hb2.size;simp at this;omega
 have HI2:Hid (IntsAt w2 (w.heap.size+2) w2.heap.size a2 (natI F)):=hide (by simpa using hi2)
 have HD0:Hid (DmI w w2 w2 n (w.heap.size+2) w2.heap.size 0 0 (dmTo (tgN xs) 0)):=hide (by
  have hr:=RowsS.born (w.alloc (.cells #[.int .i64 v,.slice a n c] 25)) n
  rw [World.size_alloc] at hr
  refine ⟨bnext (balloc (balloc (Below.refl _ _) _) _) hb2,Nat.le_refl _,rfl,Same.refl _ _ _,_,(hr.below hb2).congr (fun i _=>by simp [dmTo,natI]),fun i g hi e=>by cases e⟩)
 have f0:w2.cell? ⟨w.heap.size,0,none⟩=some (.int .i64 v):=(hb2.cell (p:=⟨w.heap.size,0,none⟩) (by show w.heap.size<_;simp;omega)).trans (by simp [go_sem])
 have f1:w2.cell? ⟨w.heap.size,1,none⟩=some (.slice a n c):=(hb2.cell (p:=⟨w.heap.size,1,none⟩) (by show w.heap.size<_;simp;omega)).trans (by simp [go_sem])
 have HFC:=hide (show _∧_ from ⟨f0,f1⟩)
 clear hb2 ho2 hi2 hm2 hnd2 f0 f1
 obtain ⟨lF,hlF2⟩:∃lF,lF=(natI F).length:=⟨_,rfl⟩
 rw [←hlF2] at hlF ⊢
 have HLF:=hide hlF2
 clear hlF2
 go_wp2_with fail
 go_loopw [5] (fun u wr=>∃k:Nat,k≤n∧u=.int .i64 k∧Hid (DmI w w2 wr n (w.heap.size+2) w2.heap.size 0 0 (dmTo (tgN xs) k))) (fun u _=>n-(intOf u).toNat)
 case atStart=>exact ⟨0,Nat.zero_le _,rfl,HD0⟩
 case round =>
  clear HD0
  obtain ⟨k,hk,rfl,HD⟩:=hrel
  have hwz:=HD.out.sz
  have hlw:w.heap.size<wr.heap.size:=by omega
  have g0:=(cell_of HD.out.fb).trans HFC.out.1
  have g1:=(cell_of HD.out.fb).trans HFC.out.2
  by_cases hlt:k<n
  ·have HIr:Hid (IntsAt wr (w.heap.size+2) w2.heap.size a2 (natI F)):=hide (HI2.out.keepS HD.out.same)
   have HHA:=hide (l1Has_any a2 lF c2 k (natI F) (w.heap.size+2) w2.heap.size wr HIr HLF (by omega))
   go_wp2_with fail
   refine HHA.out.mono ?_
   rintro e w3 ⟨rfl,hw3⟩
   rw [hw3]
   clear hw3 HHA
   cases hh:hasI (natI F) (k:Int) with
   | false =>
    have HNR:Hid (¬Re (tgN xs) k):=hide (fun h=>by
     have:=hasI_nat.2 ((HM2.out k).2 h)
     rw [hh] at this;cases this)
    clear hh
    go_wp2_with fail
    exact ⟨⟨k+1,by omega,by go_num,hide (HD.out.congr (fun i _=>(dmTo_skip HNR.out i).symm))⟩,by simp [intOf];omega⟩
   | true =>
    have HRK:Hid (Re (tgN xs) k):=hide ((HM2.out k).1 (hasI_nat.1 hh))
    clear hh
    have HDM:=hide ((HD.out.below (balloc (Below.refl _ _) (.cells (madeCells #[.bool false] n) 4)) hlw (Nat.le_refl _)))
    have HRL:Hid ((wr.alloc (.cells (madeCells #[.bool false] n) 4)).rowIs wr.heap.size 4 n (fun _=>.bool false)):=hide (World.rowIs_made wr (.bool false) n 4)
    go_wp2_with fail
    refine (HRC.out _ (balloc HD.out.bel _) (k:Int)).mono ?_
    rintro e w5 ⟨v5,Fa,rfl,hb5,ho5,hnd5,hm5⟩
    obtain ⟨a5,c5,rfl,hi5⟩:=ints_owned (xs:=natI Fa) (by rw [←natV_natI];exact ho5)
    have HM5:Hid (∀x,x∈Fa↔Av (tgN xs) k x):=hide (fun x=>(hm5 x).trans avz_nat)
    have hlA:(natI Fa).length≤1000:=by rw [natI_len];exact Nat.le_trans (nodup_le hnd5 (fun x hx=>HRE.out x (av_re ((HM5.out x).1 hx)))) hn2
    have hz5:wr.heap.size+1≤w5.heap.size:=by have:=hb5.size;simp at this;omega
    have HI5:Hid (IntsAt w5 (wr.heap.size+1) w5.heap.size a5 (natI Fa)):=hide (by simpa using hi5)
    have HR5:Hid (w5.rowIs wr.heap.size 4 n (fun _=>.bool false)):=hide (HRL.out.of_block (hb5.block _ (by simp)))
    have HD5:Hid (DmI w w2 w5 n (w.heap.size+2) w2.heap.size wr.heap.size w5.heap.size (dmTo (tgN xs) k)):=hide ((((HD.out.fresh w5.heap.size).below (balloc (Below.refl _ _) (.cells (madeCells #[.bool false] n) 4)) hlw (Nat.le_refl _))).below hb5 (by simp;omega) (Nat.le_refl _))
    obtain ⟨lA,hlA2⟩:∃lA,lA=(natI Fa).length:=⟨_,rfl⟩
    rw [←hlA2] at hlA ⊢
    have HLA:=hide hlA2
    have HNA:=hide hnd5
    clear hb5 ho5 hi5 hm5 hnd5 hlA2 HDM HRL HD g0 g1
    obtain ⟨M,hM⟩:∃M,M=wr.heap.size:=⟨_,rfl⟩
    rw [←hM] at hz5 HI5 HR5 HD5 hwz hlw ⊢
    clear hM HIr
    generalize wr=wo at *
    go_wp2_with fail
    go_loopw [8] (fun u wi=>∃i:Nat,i≤lA∧u=.int .i64 i∧Hid (w5.grownBy wi (some M))∧Hid (wi.rowIs M 4 n (fun z=>.bool (decide (z∈Fa.take i))))) (fun u _=>lA-(intOf u).toNat)
    case atStart=>exact ⟨0,Nat.zero_le _,rfl,hide (World.grownBy.refl _ _),hide (HR5.out.congr (fun z _=>by simp))⟩
    case round =>
     obtain ⟨i,hi,rfl,HGi,HRi⟩:=hrel
     by_cases hil:i<lA
     ·have hix:i<Fa.length:=by have:=HLA.out;rw [natI_len] at this;omega
      obtain ⟨b6,o6,rfl,hb6,e6⟩:=HI5.out i (by rw [natI_len];exact hix)
      have hnj:(natI Fa)[i]'(by rw [natI_len];exact hix)=((Fa[i]:Nat):Int):=by simp [natI]
      rw [hnj] at e6
      have e6w:=(World.cell?_of_block (a:=⟨b6,o6+i,none⟩) (HGi.out.block b6 hb6.2 (fun e=>by injection e with e;omega))).trans e6
      have hfn:Fa[i]<n:=HRE.out _ (av_re ((HM5.out _).1 (List.getElem_mem hix)))
      have HTK:Hid (∀z,z∈Fa.take (i+1)↔z∈Fa.take i∨z=Fa[i]):=hide (fun z=>take_mem hix)
      clear e6 hnj
      generalize Fa[i]=x at *
      have cx:=HRi.out.cell hfn
      have fx:=HRi.out.frozen x
      go_wp2_with fail
      refine ⟨⟨i+1,by omega,by go_num,hide (HGi.out.trans ⟨rfl,rfl,rfl,by simp [World.setCell],fun k _ hk=>Below.heap_setCell _ _ _ _ (fun e=>hk (by rw [e]))⟩),hide ((row_set (C:=Value.bool) HRi.out x true).congr (fun z _=>?_))⟩,by simp [intOf];omega⟩
      by_cases e:z=x
      ·rw [if_pos e,decide_eq_true ((HTK.out z).2 (Or.inr e))]
      ·rw [if_neg e]
       have:(z∈Fa.take (i+1))↔z∈Fa.take i:=(HTK.out z).trans ⟨fun h=>h.resolve_right e,Or.inl⟩
       rw [decide_eq_decide.2 this]
     ·have HTE:Hid (Fa.take i=Fa):=hide (List.take_of_length_le (by have:=HLA.out;rw [natI_len] at this;omega))
      rw [HTE.out] at HRi
      have HDi:=hide (HD5.out.grown HGi.out ⟨Nat.le_refl _,by omega⟩ (by omega) (by omega) (by omega) (Nat.le_refl _))
      have HD9:Hid (DmI w w2 wr n (w.heap.size+2) w2.heap.size M w5.heap.size (dmMid (tgN xs) F Fa k 0)):=hide (HDi.out.congr (fun b _=>(dmMid_zero F Fa k b).symm))
      have hzw:=HGi.out.size
      clear HTE HGi HR5 HD5 HI5 HDi
      generalize wr=w7 at *
      go_wp2_with fail
      go_loopw [9] (fun u wi=>∃i:Nat,i≤lF∧u=.int .i64 i∧Hid (DmI w w2 wi n (w.heap.size+2) w2.heap.size M w5.heap.size (dmMid (tgN xs) F Fa k i))∧Hid (Same M w5.heap.size w7 wi)∧Hid (w7.heap.size≤wi.heap.size)) (fun u _=>lF-(intOf u).toNat)
      case atStart=>exact ⟨0,Nat.zero_le _,rfl,HD9,hide (Same.refl _ _ _),hide (Nat.le_refl _)⟩
      case round =>
       clear HD9
       obtain ⟨j,hj,rfl,HDj,HSj,HZj⟩:=hrel
       by_cases hjl:j<lF
       ·have hjx:j<F.length:=by have:=HLF.out;rw [natI_len] at this;omega
        obtain ⟨b6,o6,rfl,hb6,e6⟩:=HI2.out j (by rw [natI_len];exact hjx)
        have hnj:(natI F)[j]'(by rw [natI_len];exact hjx)=((F[j]:Nat):Int):=by simp [natI]
        rw [hnj] at e6
        have e6w:=(World.cell?_of_block (a:=⟨b6,o6+j,none⟩) (HDj.out.same b6 hb6.1 hb6.2)).trans e6
        have hfn:F[j]<n:=HRE.out _ ((HM2.out _).1 (List.getElem_mem hjx))
        have HRj:Hid (wr.rowIs M 4 n (fun z=>.bool (decide (z∈Fa)))):=hide (HRi.out.of_block (HSj.out M (Nat.le_refl _) (by omega)))
        have cx:=HRj.out.cell hfn
        have hzj:=HZj.out
        have hwj:w5.heap.size≤wr.heap.size:=by omega
        by_cases hin:F[j]∈Fa
        ·have HDN:=hide (fun b=>dmMid_in (tg:=tgN xs) (k:=k) hjx hin b)
         rw [decide_eq_true hin] at cx
         clear e6 hnj hin
         generalize F[j]=x at *
         go_wp2_with fail
         exact ⟨⟨j+1,by omega,by go_num,hide (HDj.out.congr (fun b _=>(HDN.out b).symm)),HSj,HZj⟩,by simp [intOf];omega⟩
        ·have HDN:=hide (fun b=>dmMid_out (tg:=tgN xs) (k:=k) HND.out hjx hin b)
         rw [decide_eq_false hin] at cx
         clear e6 hnj hin
         generalize F[j]=x at *
         obtain ⟨U,hU,hav⟩:=HDj.out.rows
         have HU:=hide hU
         have HAV:=hide hav
         obtain ⟨ua,uc,hux,_⟩:=ints_owned (hU.2.1 x hfn)
         have cU:=hU.1.cell hfn
         have fU:=hU.1.frozen x
         have HUX:=hide hux
         rw [hux] at cU
         have hul:(dmMid (tgN xs) F Fa k j x).length≤1001:=Nat.le_trans (dmMid_len F Fa k j x) (by omega)
         obtain ⟨ul,hul2⟩:∃ul,ul=(dmMid (tgN xs) F Fa k j x).length:=⟨_,rfl⟩
         rw [←hul2] at cU hul
         have HUL:=hide hul2
         have HOX:Hid (wr.ownsRow (w.heap.size+1+1) 2 1 (.slice ua ul uc) ul ((dmMid (tgN xs) F Fa k j x).map (Value.int .i64))):=hide (by have h:=hU.2.1 x hfn;rw [hux,←hul2] at h;exact h)
         have hGl:=hU.1.lt
         have hnb:b6≠w.heap.size+1:=by omega
         have hbl6:b6<wr.heap.size:=by omega
         clear hU hav hux hul2
         go_wp2_with fail
         refine wp_region_held_drew (S:=(fun w'=>w'.cell? ⟨b6,o6+j,none⟩=some (.int .i64 (x:Int)))) (by kernel_rfl) (by (try dsimp only);go_keep) (fun hHeld=>?_)
         refine tkH 0 rfl (v:=?_) ?_
         simp only [Act.put,xA,xB,xD,xE,xF]
         refine tkH 1 rfl (v:=?_) ?_
         simp only [Act.put,xA,xB,xC,xD,xE,xF]
         refine tkH 2 rfl (v:=?_) ?_
         simp only [Act.put,xA,xB,xC,xD,xE,xF]
         refine tkH 3 rfl (v:=?_) ?_
         simp only [Act.put,xA,xB,xC,xD,xE,xF]
         refine tkH 4 rfl (v:=?_) ?_
         simp only [Act.put,xA,xB,xC,xD,xE,xF]
         refine tkH 5 rfl (v:=?_) ?_
         simp only [Act.put,xA,xB,xC,xD,xE,xF]
         refine tkH 6 rfl (v:=?_) ?_
         simp only [Act.put,xA,xB,xC,xD,xE,xF]
         refine tkH 7 rfl (v:=?_) ?_
         simp only [Act.put,xA,xB,xC,xD,xE,xF]
         refine tkH 8 rfl (v:=?_) ?_
         simp only [Act.put,xA,xB,xC,xD,xE,xF]
         refine tkH 9 rfl (v:=?_) ?_
         simp only [Act.put,xA,xB,xC,xD,xE,xF]
         refine tkH 10 rfl (v:=?_) ?_
         simp only [Act.put,xA,xB,xC,xD,xE,xF]
         refine tkH 11 rfl (v:=?_) ?_
         simp only [Act.put,xA,xB,xC,xD,xE,xF]
         refine tkH 13 rfl (v:=?_) ?_
         simp only [Act.put,xA,xB,xC,xD,xE,xF]
         refine wpAnyH_ready (rs:=[12,14]) (by kernel_rfl) (by simp) ?_
         refine (AllReadyH.cons rfl (fun K hK=>?_) (AllReadyH.cons rfl (fun K hK=>?_) AllReadyH.nil))
         go_simp
         refine hK.out _ _ (by first | with_reducible exact hHeld | ((try dsimp only);go_keep)) (fun hHeld=>?_)
         clear hK
         try simp only [Act.put,xA,xB,xC,xD,xE,xF]
         refine wpAnyH_ready (rs:=[14]) (by kernel_rfl) (by simp) ?_
         refine AllReadyH.cons rfl (fun K hK=>?_) AllReadyH.nil
         go_simp
         refine hK.out _ _ (by first | with_reducible exact hHeld | ((try dsimp only);go_keep)) (fun hHeld=>?_)
         clear hK
         try simp only [Act.put,xA,xB,xC,xD,xE,xF]
         rotate_left
         go_simp
         refine hK.out _ _ (by first | with_reducible exact hHeld | ((try dsimp only);go_keep)) (fun hHeld=>?_)
         clear hK
         try simp only [Act.put,xA,xB,xC,xD,xE,xF]
         refine wpAnyH_ready (rs:=[12]) (by kernel_rfl) (by simp) ?_
         refine AllReadyH.cons rfl (fun K hK=>?_) AllReadyH.nil
         go_simp
         refine hK.out _ _ (by first | with_reducible exact hHeld | ((try dsimp only);go_keep)) (fun hHeld=>?_)
         clear hK
         try simp only [Act.put,xA,xB,xC,xD,xE,xF]
         all_goals (
          refine wpAnyH_ready (rs:=[15]) (by kernel_rfl) (by simp) ?_
          refine AllReadyH.cons rfl (fun K hK=>?_) AllReadyH.nil
          refine step_append_r rfl _ _ 29 rfl (w.heap.size+1+1) 2 i0 (.int .i64 0) 1 8 Tryd.underlying29 hi0 hz0 hz1 hz2' rfl (by decide) (.slice ua ul uc) ul ((dmMid (tgN xs) F Fa k j x).map (Value.int .i64)) rfl ?s1 ⟨wr.heap.size,0,none⟩ 1 1 [.int .i64 (k:Int)] rfl rfl ?s2 ?s3 ?s4 ?s5 ?s6 ?_
          case s1=>exact (own_drew HOX.out).alloc _
          case s2=>exact one_news _ _ _
          case s3=>intro u hu;simp at hu;subst hu;rfl
          case s4=>unfold maxLen;omega
          case s5=>omega
          case s6=>simp;omega
          intro v8 w8 hown8 hg8 _ hat8
          obtain ⟨g8,c8,rfl,hg8r,_⟩:=own_some' hown8 (by omega)
          obtain ⟨hD8,hS8,ce8,fe8⟩:=(HDj.out.below (Below.refl wr.heap.size wr).drew (by omega) (Nat.le_refl _)).push (x:=(k:Int)) (t:=x) (HU.out.below (Below.refl wr.heap.size wr).drew) HAV.out hfn (by rw [HUX.out,←HUL.out];exact hg8) (by rw [←HUL.out];exact hown8) (by rw [HUX.out,←HUL.out];simpa using hat8) (Nat.le_refl _) (by show w5.heap.size≤wr.heap.size;omega) (by omega) (by omega)
          rw [HUX.out,←HUL.out] at ce8
          have z6:w8.cell? ⟨b6,o6+j,none⟩=some (.int .i64 (x:Int)):=by
           have h1:=hg8.block b6 (by simp;omega) (fun e=>by
            have h2:=HAV.out x b6 hfn (by rw [HUX.out,←HUL.out];exact e.symm)
            omega)
           have h3:(wr.drew.alloc (.cells #[.int .i64 (k:Int)] 2)).heap[b6]?=wr.heap[b6]?:=Below.heap_alloc wr.drew _ _ hbl6
           exact (cell_of (h1.trans h3)).trans e6w
          have HD8:=hide hD8
          have HS8:Hid (Same M w5.heap.size w7 (w8.setCell ⟨w.heap.size+1,x,none⟩ (.slice (some ⟨g8,0,none⟩) (ul+1) c8))):=hide (fun q q1 q2=>(hS8 q q1 q2).trans (HSj.out q q1 q2))
          have HZ8:Hid (w7.heap.size≤(w8.setCell ⟨w.heap.size+1,x,none⟩ (.slice (some ⟨g8,0,none⟩) (ul+1) c8)).heap.size):=hide (by rw [size_setCell];have:=hg8.size;simp at this;omega)
          clear hown8 hg8 hat8 hD8 hS8
          refine hK.out _ _ z6 (fun hHeld=>?_)
          clear hK
          try simp only [Act.put,xA,xB,xC,xD,xE,xF]
          refine tkH 16 rfl (v:=?_) ?_
          simp only [Act.put,xA,xB,xC,xD,xE,xF]
          refine tkH 17 rfl (v:=?_) ?_
          simp only [Act.put,xA,xB,xC,xD,xE,xF]
          refine wpAnyH_ready (rs:=[18]) (by kernel_rfl) (by simp) ?_
          refine AllReadyH.cons rfl (fun K hK=>?_) AllReadyH.nil
          go_simp
          refine hK.out _ _ ((cell_of (Below.heap_setCell _ _ _ _ hnb)).trans z6) (fun hHeld=>?_)
          clear hK
          try simp only [Act.put,xA,xB,xC,xD,xE,xF]
          refine wpAnyH_done (by kernel_rfl) ?_ _
          clear hHeld ce8 fe8 z6
          generalize w8.setCell ⟨w.heap.size+1,x,none⟩ (.slice (some ⟨g8,0,none⟩) (ul+1) c8)=w9 at *
          go_wp2_with fail
          exact ⟨⟨j+1,by omega,by go_num,hide (HD8.out.congr (fun b _=>(HDN.out b).symm)),HS8,HZ8⟩,by simp [intOf];omega⟩)
       ·have HTE:Hid (∀b,dmMid (tgN xs) F Fa k j b=dmTo (tgN xs) (k+1) b):=hide (fun b=>dmMid_done HM2.out HM5.out HRK.out (by have:=HLF.out;rw [natI_len] at this;omega) b)
        go_wp2_with fail
        exact ⟨⟨k+1,by omega,by go_num,hide ((HDj.out.congr (fun b _=>HTE.out b)).forget)⟩,by simp [intOf];omega⟩
  ·have hke:k=n:=by omega
   subst hke
   go_wp2_with fail
   go_ret
   obtain ⟨U,hU,_⟩:=HD.out.rows
   exact ⟨_,_,rfl,HD.out.bel,(hU.ints).mono (by omega) (Nat.le_refl _)⟩
end Go.Proofs.YtdfdmjcngkfciaaDoor
