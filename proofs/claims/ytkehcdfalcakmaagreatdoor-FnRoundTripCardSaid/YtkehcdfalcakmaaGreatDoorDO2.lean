import Derived.Test.YtkehcdfalcakmaaGreatDoorW18b
import Derived.Test.YtkehcdfalcakmaaGreatDoorDG9
namespace Go.Proofs.YtkehcdfalcakmaaGreatDoor
open Go.RowKit
theorem WQ(F:List Nat):U6 F=(YN F).map (Value.int .i64):=by simp[U6,YN]
theorem Zbc{F:List Nat}{x:Nat}:Wk (YN F) (x:Int)=true↔x∈F:=by
 unfold Wk;rw[List.contains_iff_mem];unfold YN;rw[List.mem_map];constructor
 ·rintro⟨a,h,e⟩
  have:a=x:=Int.ofNat.inj e;rw[<-this];exact h
 ·exact fun h=>⟨x,h,rfl⟩
end Go.Proofs.YtkehcdfalcakmaaGreatDoor
namespace Go.Proofs.YtkehcdfalcakmaaGreatDoor
set_option maxHeartbeats 4000000
set_option maxRecDepth 100000
open Go.RowKit
structure VR(w w2 wr:World)(n A0 A1 M0 M1:Nat)(P:Nat->List Int):Prop where
 bel:Below w.heap.size w wr
 sz:w2.heap.size<=wr.heap.size
 fb:wr.heap[w.heap.size]?=w2.heap[w.heap.size]?
 same:X7 A0 A1 w2 wr
 rows:∃U,ZA wr (w.heap.size+1) n P U/\∀i g,i<n->(U i).ownBlock=some g->(g<A0\/A1<=g)/\(g<M0\/M1<=g)
section
variable {w w2 wr wr' : World} {n A0 A1 M0 M1 : Nat} {P : Nat -> List Int}
theorem VR.below(h:VR w w2 wr n A0 A1 M0 M1 P)(k:Below wr.heap.size wr wr')(hf:w.heap.size<wr.heap.size)(hA:A1<=w2.heap.size):VR w w2 wr' n A0 A1 M0 M1 P:=by
 obtain⟨U,hU,hav⟩:=h.rows;have:=h.sz;exact⟨Xi h.bel k,Nat.le_trans h.sz k.size,(k.block _ hf).trans h.fb,fun q q1 q2=>(k.block q (by omega)).trans (h.same q q1 q2),U,hU.below k,hav⟩
theorem VR.fresh(h:VR w w2 wr n A0 A1 0 0 P)(M1:Nat):VR w w2 wr n A0 A1 wr.heap.size M1 P:=by
 obtain⟨U,hU,hav⟩:=h.rows;exact⟨h.bel,h.sz,h.fb,h.same,U,hU,fun i g hi e=>⟨(hav i g hi e).1,Or.inl ((hU.2.1 i hi).lt g e).2⟩⟩
theorem VR.forget(h:VR w w2 wr n A0 A1 M0 M1 P):VR w w2 wr n A0 A1 0 0 P:=by
 obtain⟨U,hU,hav⟩:=h.rows;exact⟨h.bel,h.sz,h.fb,h.same,U,hU,fun i g hi e=>⟨(hav i g hi e).1,Or.inr (Nat.zero_le _)⟩⟩
theorem VR.congr{P':Nat->List Int}(h:VR w w2 wr n A0 A1 M0 M1 P)(e:∀i,i<n->P i=P' i):VR w w2 wr n A0 A1 M0 M1 P':=by
 obtain⟨U,hU,hav⟩:=h.rows;exact⟨h.bel,h.sz,h.fb,h.same,U,hU.congr e,hav⟩
theorem VR.grown{M:Nat}(h:VR w w2 wr n A0 A1 M0 M1 P)(k:wr.grownBy wr' (some M))(hM:M0<=M/\M<M1)(hA:A1<=M0)(hf:w.heap.size+1<M0)(hw:w.heap.size+1<wr.heap.size)(hA2:A1<=w2.heap.size):VR w w2 wr' n A0 A1 M0 M1 P:=by
 obtain⟨U,hU,hav⟩:=h.rows;have hsz:=h.sz;refine⟨h.bel.grown k (by omega) (fun q e=>by cases e;omega),Nat.le_trans h.sz k.size,(k.block _ (by omega) (fun e=>by injection e with e;omega)).trans h.fb,fun q q1 q2=>(k.block q (by omega) (fun e=>by injection e with e;omega)).trans (h.same q q1 q2),U,⟨hU.1.of_block (k.block _ hw (fun e=>by injection e with e;omega)),fun i hi=>?_,hU.2.2⟩,hav⟩;refine(hU.2.1 i hi).kept k ?_;cases e:(U i).ownBlock with
 | none=>exact Or.inl rfl
 | some g=>exact Or.inr (fun e2=>by injection e2 with e2;have:=(hav i g hi e).2;omega)
theorem VR.push{w1:World}{ob:Obj}{t:Nat}{x:Int}{v':Value}{U:Nat->Value}(h:VR w w2 wr n A0 A1 M0 M1 P)(hU:ZA wr (w.heap.size+1) n P U)(hav:∀i g,i<n->(U i).ownBlock=some g->(g<A0\/A1<=g)/\(g<M0\/M1<=g))(ht:t<n)(hg:(wr.alloc ob).grownBy w1 (U t).ownBlock)(ho:w1.ownsRow (w.heap.size+1+1) 2 1 v' ((P t).length+1) ((P t).map (Value.int .i64)++[.int .i64 x]))(hat:v'.ownBlock=(U t).ownBlock\/v'.ownBlock=some (wr.heap.size+1))(hA:A1<=w2.heap.size)(hM:M1<=wr.heap.size)(hA0:w.heap.size+1<A0)(hM0:w.heap.size+1<M0) :
 VR w w2 (w1.setCell ⟨w.heap.size+1,t,none⟩ v') n A0 A1 M0 M1 (fun i=>if i=t then P t++[x]else P i)/\X7 M0 M1 wr (w1.setCell ⟨w.heap.size+1,t,none⟩ v')/\w1.cell? ⟨w.heap.size+1,t,none⟩=some (U t)/\w1.frozen? ⟨w.heap.size+1,t,none⟩=false:=by
 have hsz:=h.sz;have hGl:=hU.1.lt;have hgs:=hg.size;have has:(wr.alloc ob).heap.size=wr.heap.size+1:=World.size_alloc _ _;have hal:∀k,k<wr.heap.size->(wr.alloc ob).heap[k]?=wr.heap[k]?:=fun k hk=>Below.heap_alloc _ _ _ hk
 have hst:=(hU.alloc ob).step ht x v' hg ho (by rw[has];exact hat);have hbk:∀k,k<wr.heap.size->k≠w.heap.size+1->some k≠(U t).ownBlock->(w1.setCell ⟨w.heap.size+1,t,none⟩ v').heap[k]?=wr.heap[k]?:=fun k h1 h2 h3=>(Below.heap_setCell _ _ _ _ h2).trans ((hg.block k (by omega) h3).trans (hal k h1))
 have hnu:∀k,k<=w.heap.size+1->some k≠(U t).ownBlock:=fun k hk e=>by have:=((hU.2.1 t ht).lt k e.symm).1;omega
 have hbG:w1.heap[w.heap.size+1]?=wr.heap[w.heap.size+1]?:=(hg.block _ (by omega) (hnu _ (Nat.le_refl _))).trans (hal _ hGl);refine⟨⟨?_,by rw[Xd];omega,(hbk _ (by omega) (by omega) (hnu _ (by omega))).trans h.fb,fun q q1 q2=>(hbk q (by omega) (by omega) (fun e=>by have:=(hav t q ht e.symm).1;omega)).trans (h.same q q1 q2),_,hst,fun i g hi e=>?_⟩,fun q q1 q2=>hbk q (by omega) (by omega) (fun e=>by have:=(hav t q ht e.symm).2;omega),(Xc hbG).trans (hU.1.cell ht),(World.frozen?_of_block hbG).trans (hU.1.frozen t)⟩
 ·exact⟨hg.os.trans h.bel.os,hg.tape.trans h.bel.tape,hg.output.trans h.bel.output,by rw[Xd];omega,fun k hk=>(hbk k (by omega) (by omega) (hnu k (by omega))).trans (h.bel.block k hk)⟩
 ·by_cases e1:i=t
  ·subst e1
   simp only[if_true]at e;rcases hat with q | q
   ·exact hav i g hi (by rw[<-q];exact e)
   ·rw[q]at e
    have:=Option.some.inj e;omega
  ·simp only[e1,if_false]at e
   exact hav i g hi e
end
theorem Zfc(v:Int)(a:Option Addr)(n c:Nat)(xs:List Xf)(L B:Nat)(w:World)(ha:Hid (X8 w L B a xs))(hx:Hid (n=xs.length))(hB:B<=w.heap.size)(hok:Hid (OkF xs)) :
 Calls Tryz.prog 72 #[.agg #[.int .i64 v,.slice a n c]] w fun e w'=>∃a' c',e=.returned (.slice a' n c')/\Below w.heap.size w w'/\YK w' w.heap.size w'.heap.size a' ((List.range n).map fun b:Nat=>YN (Jh (Ji xs) n b)):=by
 obtain⟨i0,hi0,hz0,hz1,hz2'⟩:=X0 Tryz.info2';have hn2:n<=1000:=by have:=hok.n2;have:=hx.out;omega
 have hn1:0<n:=by have:=hok.n1;have:=hx.out;omega
 have HRE:Hid (∀x,Re (Ji xs) x->x<n):=Xa (by rw[hx.out];exact hok.re);have HRC:=Xa (fun W (hb:Below w.heap.size w W) z=>ZdA v a n c z xs L B W (Xa (ha.keep (hb.mono hB))) hx hn2 hn1 (by have:=hb.size;omega) (Xa (by rw[hx.out];exact hok.tgt)));have hmk:=Zel (P:=Tryz.prog) 147 150 (.agg #[.slice none 0 0]) 1 24 Tryz.underlying147 Tryz.infoSetI n (by omega) (by omega);have hmc:madeCells (Value.agg #[.slice none 0 0]).cells (n*1)=madeCells #[.slice none 0 0] n:=by rw[Nat.mul_one];rfl
 rw[hmc]at hmk;have hmb:=run_make_row' (P:=Tryz.prog) 116 4 (.bool false) 1 Tryz.underlying116 Tryz.infoBo rfl .i64 .i64 n (by omega) (by omega);clear hmc
 go_enter Tryz.func72,Tryz.ntmps72
 go_wp2_with fail
 refine(HRC.out _ (Xb (Xb (Below.refl _ _) _) _) (-1)).mono ?_;rintro e w2 ⟨v2,F,rfl,hb2,ho2,hnd2,hm2⟩;obtain⟨a2,c2,rfl,hi2⟩:=Yv (xs:=YN F) (by rw[<-WQ];exact ho2);have HM2:Hid (∀x,x∈F↔Re (Ji xs) x):=Xa (fun x=>(hm2 x).trans (ZgO (by decide)));have HND:=Xa hnd2;have hlF:(YN F).length<=1000:=by rw[YX];exact Nat.le_trans (Uf hnd2 (fun x hx=>HRE.out x ((HM2.out x).1 hx))) hn2
 have hz2:w.heap.size+2<=w2.heap.size:=by have:=hb2.size;simp at this;omega
 have HI2:Hid (Xh w2 (w.heap.size+2) w2.heap.size a2 (YN F)):=Xa (by simpa using hi2);have HD0:Hid (VR w w2 w2 n (w.heap.size+2) w2.heap.size 0 0 (TA (Ji xs) 0)):=Xa (by
  have hr:=ZA.born (w.alloc (.cells #[.int .i64 v,.slice a n c] 25)) n;rw[World.size_alloc]at hr;refine⟨Xi (Xb (Xb (Below.refl _ _) _) _) hb2,Nat.le_refl _,rfl,X7.refl _ _ _,_,(hr.below hb2).congr (fun i _=>by simp[TA,YN]),fun i g hi e=>by cases e⟩)
 have f0:w2.cell? ⟨w.heap.size,0,none⟩=some (.int .i64 v):=(hb2.cell (p:=⟨w.heap.size,0,none⟩) (by show w.heap.size<_;simp;omega)).trans (by simp[go_sem]);have f1:w2.cell? ⟨w.heap.size,1,none⟩=some (.slice a n c):=(hb2.cell (p:=⟨w.heap.size,1,none⟩) (by show w.heap.size<_;simp;omega)).trans (by simp[go_sem]);have HFC:=Xa (show _/\_ from⟨f0,f1⟩);clear hb2 ho2 hi2 hm2 hnd2 f0 f1;obtain⟨lF,hlF2⟩:∃lF,lF=(YN F).length:=⟨_,rfl⟩;rw[<-hlF2]at hlF |-;have HLF:=Xa hlF2;clear hlF2
 go_wp2_with fail
 go_loopw [5] (fun u wr=>∃k:Nat,k<=n/\u=.int .i64 k/\Hid (VR w w2 wr n (w.heap.size+2) w2.heap.size 0 0 (TA (Ji xs) k))) (fun u _=>n-(intOf u).toNat)
 case atStart=>exact⟨0,Nat.zero_le _,rfl,HD0⟩
 case round =>
  clear HD0;obtain⟨k,hk,rfl,HD⟩:=hrel;have hwz:=HD.sz;have hlw:w.heap.size<wr.heap.size:=by omega
  have g0:=(Xc HD.fb).trans HFC.1;have g1:=(Xc HD.fb).trans HFC.2;by_cases hlt:k<n
  ·have HIr:Hid (Xh wr (w.heap.size+2) w2.heap.size a2 (YN F)):=Xa (HI2.keepS HD.same)
   have HHA:=Xa (UC a2 lF c2 k (YN F) (w.heap.size+2) w2.heap.size wr HIr HLF (by omega))
   go_wp2_with fail
   refine HHA.mono ?_;rintro e w3 ⟨rfl,hw3⟩;rw[hw3];clear hw3 HHA;cases hh:Wk (YN F) (k:Int)with
   | false =>
    have HNR:Hid (¬Re (Ji xs) k):=Xa (fun h=>by
     have:=Zbc.2 ((HM2.out k).2 h);rw[hh]at this;cases this)
    clear hh
    go_wp2_with fail
    exact⟨⟨k+1,by omega,by go_num,Xa (HD.congr (fun i _=>(ZdF HNR.out i).symm))⟩,by simp[intOf];omega⟩
   | true =>
    have HRK:Hid (Re (Ji xs) k):=Xa ((HM2.out k).1 (Zbc.1 hh));clear hh;have HDM:=Xa ((HD.below (Xb (Below.refl _ _) (.cells (madeCells #[.bool false] n) 4)) hlw (Nat.le_refl _)));have HRL:Hid ((wr.alloc (.cells (madeCells #[.bool false] n) 4)).rowIs wr.heap.size 4 n (fun _=>.bool false)):=Xa (World.rowIs_made wr (.bool false) n 4)
    go_wp2_with fail
    refine(HRC.out _ (Xb HD.bel _) (k:Int)).mono ?_;rintro e w5 ⟨v5,Fa,rfl,hb5,ho5,hnd5,hm5⟩;obtain⟨a5,c5,rfl,hi5⟩:=Yv (xs:=YN Fa) (by rw[<-WQ];exact ho5);have HM5:Hid (∀x,x∈Fa↔Av (Ji xs) k x):=Xa (fun x=>(hm5 x).trans ZgH);have hlA:(YN Fa).length<=1000:=by rw[YX];exact Nat.le_trans (Uf hnd5 (fun x hx=>HRE.out x (ZfJ ((HM5.out x).1 hx)))) hn2
    have hz5:wr.heap.size+1<=w5.heap.size:=by have:=hb5.size;simp at this;omega
    have HI5:Hid (Xh w5 (wr.heap.size+1) w5.heap.size a5 (YN Fa)):=Xa (by simpa using hi5);have HR5:Hid (w5.rowIs wr.heap.size 4 n (fun _=>.bool false)):=Xa (HRL.of_block (hb5.block _ (by simp)));have HD5:Hid (VR w w2 w5 n (w.heap.size+2) w2.heap.size wr.heap.size w5.heap.size (TA (Ji xs) k)):=Xa ((((HD.fresh w5.heap.size).below (Xb (Below.refl _ _) (.cells (madeCells #[.bool false] n) 4)) hlw (Nat.le_refl _))).below hb5 (by simp;omega) (Nat.le_refl _));obtain⟨lA,hlA2⟩:∃lA,lA=(YN Fa).length:=⟨_,rfl⟩;rw[<-hlA2]at hlA |-;have HLA:=Xa hlA2;have HNA:=Xa hnd5;clear hb5 ho5 hi5 hm5 hnd5 hlA2 HDM HRL HD g0 g1;obtain⟨M,hM⟩:∃M,M=wr.heap.size:=⟨_,rfl⟩;rw[<-hM]at hz5 HI5 HR5 HD5 hwz hlw |-;clear hM HIr;generalize wr=wo at *
    go_wp2_with fail
    go_loopw [8] (fun u wi=>∃i:Nat,i<=lA/\u=.int .i64 i/\Hid (w5.grownBy wi (some M))/\Hid (wi.rowIs M 4 n (fun z=>.bool (decide (z∈Fa.take i))))) (fun u _=>lA-(intOf u).toNat)
    case atStart=>exact⟨0,Nat.zero_le _,rfl,Xa (World.grownBy.refl _ _),Xa (HR5.congr (fun z _=>by simp))⟩
    case round =>
     obtain⟨i,hi,rfl,HGi,HRi⟩:=hrel;by_cases hil:i<lA
     ·have hix:i<Fa.length:=by have:=HLA.out;rw[YX]at this;omega
      obtain⟨b6,o6,rfl,hb6,e6⟩:=HI5.out i (by rw[YX];exact hix);have hnj:(YN Fa)[i]'(by rw[YX];exact hix)=((Fa[i]:Nat):Int):=by simp[YN]
      rw[hnj]at e6;have e6w:=(World.cell?_of_block (a:=⟨b6,o6+i,none⟩) (HGi.block b6 hb6.2 (fun e=>by injection e with e;omega))).trans e6;have hfn:Fa[i]<n:=HRE.out _ (ZfJ ((HM5.out _).1 (List.getElem_mem hix)));have HTK:Hid (∀z,z∈Fa.take (i+1)↔z∈Fa.take i\/z=Fa[i]):=Xa (fun z=>JQ hix);clear e6 hnj;generalize Fa[i]=x at *;have cx:=HRi.cell hfn;have fx:=HRi.frozen x
      go_wp2_with fail
      refine⟨⟨i+1,by omega,by go_num,Xa (HGi.trans ⟨rfl,rfl,rfl,by simp[World.setCell],fun k _ hk=>Below.heap_setCell _ _ _ _ (fun e=>hk (by rw[e]))⟩),Xa ((Zdu (C:=Value.bool) HRi.out x true).congr (fun z _=>?_))⟩,by simp[intOf];omega⟩;by_cases e:z=x
      ·rw[if_pos e,decide_eq_true ((HTK.out z).2 (Or.inr e))]
      ·rw[if_neg e]
       have:(z∈Fa.take (i+1))↔z∈Fa.take i:=(HTK.out z).trans ⟨fun h=>h.resolve_right e,Or.inl⟩;rw[decide_eq_decide.2 this]
     ·have HTE:Hid (Fa.take i=Fa):=Xa (List.take_of_length_le (by have:=HLA.out;rw[YX]at this;omega))
      rw[HTE.out]at HRi;have HDi:=Xa (HD5.grown HGi.out ⟨Nat.le_refl _,by omega⟩ (by omega) (by omega) (by omega) (Nat.le_refl _));have HD9:Hid (VR w w2 wr n (w.heap.size+2) w2.heap.size M w5.heap.size (Zm (Ji xs) F Fa k 0)):=Xa (HDi.congr (fun b _=>(Zcj F Fa k b).symm));have hzw:=HGi.size;clear HTE HGi HR5 HD5 HI5 HDi;generalize wr=w7 at *
      go_wp2_with fail
      go_loopw [9] (fun u wi=>∃i:Nat,i<=lF/\u=.int .i64 i/\Hid (VR w w2 wi n (w.heap.size+2) w2.heap.size M w5.heap.size (Zm (Ji xs) F Fa k i))/\Hid (X7 M w5.heap.size w7 wi)/\Hid (w7.heap.size<=wi.heap.size)) (fun u _=>lF-(intOf u).toNat)
      case atStart=>exact⟨0,Nat.zero_le _,rfl,HD9,Xa (X7.refl _ _ _),Xa (Nat.le_refl _)⟩
      case round =>
       clear HD9;obtain⟨j,hj,rfl,HDj,HSj,HZj⟩:=hrel;by_cases hjl:j<lF
       ·have hjx:j<F.length:=by have:=HLF.out;rw[YX]at this;omega
        obtain⟨b6,o6,rfl,hb6,e6⟩:=HI2.out j (by rw[YX];exact hjx);have hnj:(YN F)[j]'(by rw[YX];exact hjx)=((F[j]:Nat):Int):=by simp[YN]
        rw[hnj]at e6;have e6w:=(World.cell?_of_block (a:=⟨b6,o6+j,none⟩) (HDj.same b6 hb6.1 hb6.2)).trans e6;have hfn:F[j]<n:=HRE.out _ ((HM2.out _).1 (List.getElem_mem hjx));have HRj:Hid (wr.rowIs M 4 n (fun z=>.bool (decide (z∈Fa)))):=Xa (HRi.of_block (HSj.out M (Nat.le_refl _) (by omega)));have cx:=HRj.cell hfn;have hzj:=HZj.out;have hwj:w5.heap.size<=wr.heap.size:=by omega
        by_cases hin:F[j]∈Fa
        ·have HDN:=Xa (fun b=>ZeP (tg:=Ji xs) (k:=k) hjx hin b)
         rw[decide_eq_true hin]at cx;clear e6 hnj hin;generalize F[j]=x at *
         go_wp2_with fail
         exact⟨⟨j+1,by omega,by go_num,Xa (HDj.congr (fun b _=>(HDN.out b).symm)),HSj,HZj⟩,by simp[intOf];omega⟩
        ·have HDN:=Xa (fun b=>Zeb (tg:=Ji xs) (k:=k) HND.out hjx hin b)
         rw[decide_eq_false hin]at cx;clear e6 hnj hin;generalize F[j]=x at *;obtain⟨U,hU,hav⟩:=HDj.rows;have HU:=Xa hU;have HAV:=Xa hav;obtain⟨ua,uc,hux,_⟩:=Yv (hU.2.1 x hfn);have cU:=hU.1.cell hfn;have fU:=hU.1.frozen x;have HUX:=Xa hux;rw[hux]at cU;have hul:(Zm (Ji xs) F Fa k j x).length<=1001:=Nat.le_trans (ZdC F Fa k j x) (by omega);obtain⟨ul,hul2⟩:∃ul,ul=(Zm (Ji xs) F Fa k j x).length:=⟨_,rfl⟩;rw[<-hul2]at cU hul;have HUL:=Xa hul2;have HOX:Hid (wr.ownsRow (w.heap.size+1+1) 2 1 (.slice ua ul uc) ul ((Zm (Ji xs) F Fa k j x).map (Value.int .i64))):=Xa (by have h:=hU.2.1 x hfn;rw[hux,<-hul2]at h;exact h);have hGl:=hU.1.lt;have hnb:b6≠w.heap.size+1:=by omega
         have hbl6:b6<wr.heap.size:=by omega
         clear hU hav hux hul2
         go_wp2_with fail
         refine YZ (fun w'=>w'.cell? ⟨b6,o6+j,none⟩=some (.int .i64 (x:Int))) (fun hHeld=>?_);refine Xl 0 ?_;refine Xl 1 ?_;refine Xl 2 ?_;refine Xl 3 ?_;refine Xl 4 ?_;refine Xl 5 ?_;refine Xl 6 ?_;refine Xl 7 ?_;refine Xl 8 ?_;refine Xl 9 ?_;refine Xl 10 ?_;refine Xl 11 ?_;refine Xl 13 ?_;refine wpAnyH_ready (rs:=[12,14]) (by kernel_rfl) (by simp) ?_;refine(AllReadyH.cons rfl (fun K hK=>?_) (AllReadyH.cons rfl (fun K hK=>?_) AllReadyH.nil));go_simp;refine hK _ _ (by first | with_reducible exact hHeld | ((try dsimp only);go_keep)) (fun hHeld=>?_);clear hK
         try simp only[Act.put,xA,xB,xC,xD,xE,xF]
         refine Xw 14 (fun K hK=>?_);go_simp;refine hK _ _ (by first | with_reducible exact hHeld | ((try dsimp only);go_keep)) (fun hHeld=>?_);clear hK;rotate_left;go_simp;refine hK _ _ (by first | with_reducible exact hHeld | ((try dsimp only);go_keep)) (fun hHeld=>?_);clear hK
         try simp only[Act.put,xA,xB,xC,xD,xE,xF]
         refine Xw 12 (fun K hK=>?_);go_simp;refine hK _ _ (by first | with_reducible exact hHeld | ((try dsimp only);go_keep)) (fun hHeld=>?_);clear hK
         all_goals (
          refine Xw 15 (fun K hK=>?_);refine Zh rfl _ _ 44 rfl (w.heap.size+1+1) 2 i0 (.int .i64 0) 1 8 Tryz.underlying44 hi0 hz0 hz1 hz2' rfl (by decide) (.slice ua ul uc) ul ((Zm (Ji xs) F Fa k j x).map (Value.int .i64)) rfl ?s1 ⟨wr.heap.size,0,none⟩ 1 1 [.int .i64 (k:Int)] rfl rfl ?s2 ?s3 ?s4 ?s5 ?s6 ?_
          case s1=>exact(ZfN HOX.out).alloc _
          case s2=>exact YB _ _ _
          case s3=>intro u hu;simp at hu;subst hu;rfl
          case s4=>unfold maxLen;omega
          case s5=>omega
          case s6=>simp;omega
          intro v8 w8 hown8 hg8 _ hat8;obtain⟨g8,c8,rfl,hg8r,_⟩:=Xj hown8 (by omega);obtain⟨hD8,hS8,ce8,fe8⟩:=(HDj.below (Below.refl wr.heap.size wr).drew (by omega) (Nat.le_refl _)).push (x:=(k:Int)) (t:=x) (HU.below (Below.refl wr.heap.size wr).drew) HAV.out hfn (by rw[HUX.out,<-HUL.out];exact hg8) (by rw[<-HUL.out];exact hown8) (by rw[HUX.out,<-HUL.out];simpa using hat8) (Nat.le_refl _) (by show w5.heap.size<=wr.heap.size;omega) (by omega) (by omega);rw[HUX.out,<-HUL.out]at ce8;have z6:w8.cell? ⟨b6,o6+j,none⟩=some (.int .i64 (x:Int)):=by
           have h1:=hg8.block b6 (by simp;omega) (fun e=>by
            have h2:=HAV.out x b6 hfn (by rw[HUX.out,<-HUL.out];exact e.symm);omega)
           have h3:(wr.drew.alloc (.cells #[.int .i64 (k:Int)] 2)).heap[b6]?=wr.heap[b6]?:=Below.heap_alloc wr.drew _ _ hbl6;exact(Xc (h1.trans h3)).trans e6w
          have HD8:=Xa hD8;have HS8:Hid (X7 M w5.heap.size w7 (w8.setCell ⟨w.heap.size+1,x,none⟩ (.slice (some ⟨g8,0,none⟩) (ul+1) c8))):=Xa (fun q q1 q2=>(hS8 q q1 q2).trans (HSj.out q q1 q2));have HZ8:Hid (w7.heap.size<=(w8.setCell ⟨w.heap.size+1,x,none⟩ (.slice (some ⟨g8,0,none⟩) (ul+1) c8)).heap.size):=Xa (by rw[Xd];have:=hg8.size;simp at this;omega);clear hown8 hg8 hat8 hD8 hS8;refine hK _ _ z6 (fun hHeld=>?_);clear hK;refine Xl 16 ?_;refine Xl 17 ?_;refine Xw 18 (fun K hK=>?_);go_simp;refine hK _ _ ((Xc (Below.heap_setCell _ _ _ _ hnb)).trans z6) (fun hHeld=>?_);clear hK;refine Y7 ?_;clear hHeld ce8 fe8 z6;generalize w8.setCell ⟨w.heap.size+1,x,none⟩ (.slice (some ⟨g8,0,none⟩) (ul+1) c8)=w9 at *
          go_wp2_with fail
          exact⟨⟨j+1,by omega,by go_num,Xa (HD8.congr (fun b _=>(HDN.out b).symm)),HS8,HZ8⟩,by simp[intOf];omega⟩)
       ·have HTE:Hid (∀b,Zm (Ji xs) F Fa k j b=TA (Ji xs) (k+1) b):=Xa (fun b=>ZcT HM2.out HM5.out HRK.out (by have:=HLF.out;rw[YX]at this;omega) b)
        go_wp2_with fail
        exact⟨⟨k+1,by omega,by go_num,Xa ((HDj.congr (fun b _=>HTE.out b)).forget)⟩,by simp[intOf];omega⟩
  ·have hke:k=n:=by omega
   subst hke
   go_wp2_with fail
   go_ret
   obtain⟨U,hU,_⟩:=HD.rows;exact⟨_,_,rfl,HD.bel,(hU.ints).mono (by omega) (Nat.le_refl _)⟩
end Go.Proofs.YtkehcdfalcakmaaGreatDoor
namespace Go.Proofs.YtkehcdfalcakmaaGreatDoor
open Go.RowKit
theorem OkF.exD{xs:List Xf}(h:OkF xs):∀b,b<xs.length->(∃a,Idm (Ji xs) a b)\/∀c,K9 (Ji xs) c b->c=b:=fun b hb=>by
 classical
 have hw:∀b,b<xs.length->∀x,x<xs.length->(XS (Wx (fun _=>0) ((List.range xs.length).filter fun x=>decide (Av (Ji xs) x b))) x=true↔Av (Ji xs) x b):=fun b _ x hx=>by
  rw[VD,KG,Bool.or_false,decide_eq_true_eq,List.mem_filter,List.mem_range,decide_eq_true_eq];exact⟨fun q=>q.2,fun q=>⟨hx,q⟩⟩
 have:=Zcg h.top.2.2.1 h.top.1 h.re h.top.2.2.2 (Ws:=fun b=>Wx (fun _=>0) ((List.range xs.length).filter fun x=>decide (Av (Ji xs) x b))) hw;rcases this.get b hb with⟨a,ha,_⟩ | ⟨q,_⟩
 ·exact Or.inl ⟨a,ha⟩
 ·exact Or.inr q
noncomputable def JP(xs:List Xf):List Int:=(List.range xs.length).map (idomP ((List.range xs.length).map (Jh (Ji xs) xs.length)))
theorem Zdz{n i:Nat}{t:XN}(h:Wg n i t):(∀z∈t.targets,0<=z/\z<(n:Int))/\t.targets.Nodup/\(i+1<n->((i+1:Nat):Int)∈t.targets):=by
 rcases h with⟨rfl,h⟩ | ⟨q,rfl,h1,h2,h3⟩ | ⟨q,r,rfl,h1,h2,h3,h4,h5,h6,h7⟩
 ·exact⟨fun z hz=>by simp[XN.targets]at hz,by simp[XN.targets],fun k=>absurd k h⟩
 ·refine⟨fun z hz=>?_,by simp[XN.targets],fun k=>?_⟩
  ·simp[XN.targets]at hz
   omega
  ·rw[h3 k]
   simp[XN.targets]
 ·refine⟨fun z hz=>?_,?_,fun k=>?_⟩
  ·simp[XN.targets]at hz
   omega
  ·simp[XN.targets]
   omega
  ·rcases h6 with e | e<;>subst e<;>simp[XN.targets]
theorem Zhf{n:Nat}{ts:List XN}(hl:ts.length=n)(h1:1<=n)(hn:n<=1000)(h:∀j (h:j<ts.length),Wg n j ts[j]):OkF (ts.map Yf):=by
 have hm:∀x∈ts.map Yf,(∀z∈x.term.targets,0<=z/\z<(n:Int))/\x.term.targets.Nodup:=fun x hx=>by
  obtain⟨t,ht,rfl⟩:=List.mem_map.1 hx;obtain⟨j,hj,rfl⟩:=List.getElem_of_mem ht;have:=Zdz (h j hj);exact⟨this.1,this.2.1⟩
 have hl2:(ts.map Yf).length=n:=by simpa using hl
 refine⟨by omega,by omega,fun x hx t ht=>?_,fun x hx=>?_⟩
 ·rw[hl2];exact(hm x hx).1 t ht
 ·rw[hl2];exact hm x hx
theorem ZgZ{n:Nat}{ts:List XN}(hl:ts.length=n)(h1:1<=n)(hn:n<=1000)(h:∀j (h:j<ts.length),Wg n j ts[j]){b:Nat}(h0:0<b)(hb:b<n):∃c:Nat,(JP (ts.map Yf)).getD b 0=(c:Int)/\c<b:=by
 have hl2:(ts.map Yf).length=n:=by simpa using hl
 have ok:=Zhf hl h1 hn h;have hst:∀j,j+1<n->j+1∈Ji (ts.map Yf) j:=fun j hj=>by
  have hjl:j<ts.length:=by omega
  rw[Zci (by rw[hl2];omega),List.getElem_map];have:=(Zdz (h j hjl)).2.2 hj;exact List.mem_map.2 ⟨_,this,by simp⟩
 have hre:∀j,j<n->Re (Ji (ts.map Yf)) j:=fun j=>by
  induction j with
  | zero=>exact fun _=>Re.root
  | succ j ih=>exact fun hj=>Re.step (ih (by omega)) (hst j hj)
 have hid:=ZbN ok.re ok.exD;obtain⟨c,e,hc,hrc,hlt,hd⟩:=ZgR hid ok.re (hre b hb) (by omega);refine⟨c,e,?_⟩;have hcb:c≠b:=fun e=>by rw[e]at hlt;omega
 have hdb:=(hd c hcb).2 (TZ hrc);by_cases hcl:c<b
 ·exact hcl
 ·exfalso
  have:∀j,j<=b->Av (Ji (ts.map Yf)) c j:=fun j=>by
   induction j with
   | zero=>exact fun _=>Av.root (by omega)
   | succ j ih=>exact fun hj=>Av.step (ih (by omega)) (hst j (by omega)) (by omega)
  exact hdb.no (this b (Nat.le_refl _))
theorem Za0(xs:List Xf):(JP xs).length=xs.length:=by simp[JP]
theorem Ux{w:World}{base base' t t' sz sz' n n':Nat}{v v':Value}{cs cs':List Value}(h:w.ownsRow base t sz v n cs)(h':w.ownsRow base' t' sz' v' n' cs')(ht:t≠t'){b:Nat}(e:v.ownBlock=some b):v'.ownBlock≠some b:=fun e'=>by
 obtain⟨_,h | ⟨g,cap,cur,rfl,hg,hh,hc⟩⟩:=h
 ·rw[h.1]at e;cases e
 obtain⟨_,h' | ⟨g',cap',cur',rfl,hg',hh',hc'⟩⟩:=h'
 ·rw[h'.1]at e';cases e'
 cases e;cases e';rw[hh]at hh';injection hh' with hh';injection hh' with _ h2 _;exact ht h2
theorem Zn{w:World}{base t t' sz n b:Nat}{v:Value}{cs:List Value}{ca:Array Value}(h:w.ownsRow base t sz v n cs)(h':Bx w b ca t')(ht:t≠t'):v.ownBlock≠some b:=fun e=>by
 obtain⟨_,h | ⟨g,cap,cur,rfl,hg,hh,hc⟩⟩:=h
 ·rw[h.1]at e;cases e
 cases e;unfold Bx at h';rw[hh]at h';injection h' with hh';injection hh' with _ h2 _;exact ht h2
structure We(w wr:World)(sb B:Nat)(s:Sr)(fb:Nat)(vG:Value)(xs:List Xf)(vi:Value)(ids:List Int):Prop where
 dr:Zs wr sb B s
 gr:w.grownBy wr (some sb)
 bw:B<=w.heap.size
 res:Bx wr w.heap.size #[.int .i64 0,.slice none 0 0] 25
 fbx:Bx wr fb #[.int .i64 0,vG] 25
 fbb:w.heap.size<fb
 bl:wr.ownsRow w.heap.size 43 6 vG xs.length (Xy YH YH xs)
 id:wr.ownsRow w.heap.size 2 1 vi ids.length (Xo ids)
 emp:∀x∈xs,x.phis=[]/\x.instrs=[]
theorem We.start{w wr:World}{sb B:Nat}{s:Sr}{fb G n c:Nat}{xs:List Xf}{vi:Value}{ids:List Int}(h:We w wr sb B s fb (.slice (some ⟨G,0,none⟩) n c) xs vi ids) :
 ∃lab,J6 w (wr.alloc (.cells #[] 150)) lab sb B s fb 0 G c xs YH YH (fun _=>YH) (.slice (some ⟨wr.heap.size,0,none⟩) 0 0) YH [] vi ids:=by
 have hnl:xs.length=n:=by
  rcases h.bl.2 with⟨e,_⟩ | ⟨_,_,_,e,_⟩
  ·cases e
  ·cases e;rfl
 subst hnl;have hGi:vi.ownBlock≠some G:=Ux h.bl h.id (by decide) rfl;have hGR:G≠w.heap.size:=fun e=>Zn h.bl h.res (by decide) (by rw[<-e];rfl)
 have hGF:G≠fb:=fun e=>Zn h.bl h.fbx (by decide) (by rw[<-e];rfl)
 have hiR:=Zn h.id h.res (by decide);have hiF:=Zn h.id h.fbx (by decide);have hGl:=(h.bl.lt G rfl).2;have hRl:=h.res.lt;have hFl:=h.fbx.lt;have hil:∀b,vi.ownBlock=some b->b<wr.heap.size:=fun b e=>(h.id.lt b e).2
 have hl0:∀b,b≠G->vi.ownBlock≠some b->b≠wr.heap.size->(if b=G then (1,0,0)else if vi.ownBlock=some b then (7,0,0)else if b=wr.heap.size then (6,0,0)else (0,0,0):Nat × Nat × Nat)=(0,0,0):=fun b h1 h2 h3=>by rw[if_neg h1,if_neg h2,if_neg h3]
 have k:XK wr (wr.alloc (.cells #[] 150)) (fun _=>(0,0,0)) (fun _=>(0,0,0)) w.heap.size (fun _=>True):=XK.box _;refine⟨fun b=>if b=G then (1,0,0)else if vi.ownBlock=some b then (7,0,0)else if b=wr.heap.size then (6,0,0)else (0,0,0),h.dr.box _,Yi h.gr (World.grownBy_alloc _ _ _),h.bw,h.res.box _,hl0 _ (Ne.symm hGR) hiR (by omega),h.fbx.box _,hl0 _ (Ne.symm hGF) hiF (by omega),h.fbb,⟨⟨h.bl.alloc _,fun b e=>?_⟩,fun i hi=>?_,fun i hi=>?_,fun i hi j hj=>?_⟩,⟨?_,fun b e=>?_⟩,fun i hi=>absurd hi (by simp),⟨h.id.alloc _,fun b e=>?_⟩,fun b hb=>?_,fun j _=>⟨rfl,rfl⟩⟩
 ·cases e
  exact if_pos rfl
 ·rw[(h.emp _ (List.getElem_mem hi)).1]
  exact⟨World.ownsRow_nil _ _ _ _,fun b e=>by cases e⟩
 ·rw[(h.emp _ (List.getElem_mem hi)).2]
  exact⟨World.ownsRow_nil _ _ _ _,fun b e=>by cases e⟩
 ·rw[(h.emp _ (List.getElem_mem hi)).1]at hj
  exact absurd hj (by simp)
 ·have:=World.ownsRow_lit (base:=w.heap.size) (e:=150) (size:=1) wr #[] 0 h.gr.size (by simp) rfl
  simpa [XW]using this
 ·cases e
  dsimp only;rw[if_neg (by omega),if_neg (fun e=>by have:=hil _ e;omega),if_pos rfl]
 ·rw[if_neg (fun e2=>hGi (by rw[<-e2];exact e)),if_pos e]
 ·rw[World.size_alloc]at hb
  exact hl0 b (by omega) (fun e=>by have:=hil _ e;omega) (by omega)
end Go.Proofs.YtkehcdfalcakmaaGreatDoor
