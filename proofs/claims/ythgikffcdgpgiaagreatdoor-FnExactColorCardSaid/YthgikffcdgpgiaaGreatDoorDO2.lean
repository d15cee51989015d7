import Derived.Test.YthgikffcdgpgiaaGreatDoorAN0
namespace Go.Proofs.YthgikffcdgpgiaaGreatDoor
set_option maxHeartbeats 4000000
set_option maxRecDepth 100000
open Go.RowKit
theorem TM(F:List Nat):Yo F=(Xh F).map (Value.int .i64):=by simp[Yo,Xh]
theorem UT{F:List Nat}{x:Nat}:hasI (Xh F) (x:Int)=true↔x∈F:=by
 unfold hasI;rw[List.contains_iff_mem];unfold Xh;rw[List.mem_map];constructor
 ·rintro⟨a,h,e⟩
  have:a=x:=Int.ofNat.inj e;rw[<-this];exact h
 ·exact fun h=>⟨x,h,rfl⟩
section
structure UJ(w w2 wr:World)(n A0 A1 M0 M1:Nat)(P:Nat->List Int):Prop where
 bel:Below w.heap.size w wr
 sz:w2.heap.size<=wr.heap.size
 fb:wr.heap[w.heap.size]?=w2.heap[w.heap.size]?
 same:Xu A0 A1 w2 wr
 rows:∃U,Za wr (w.heap.size+1) n P U/\∀i g,i<n->(U i).ownBlock=some g->(g<A0\/A1<=g)/\(g<M0\/M1<=g)
section
variable {w w2 wr wr' : World} {n A0 A1 M0 M1 : Nat} {P : Nat -> List Int}
theorem UJ.below(h:UJ w w2 wr n A0 A1 M0 M1 P)(k:Below wr.heap.size wr wr')(hf:w.heap.size<wr.heap.size)(hA:A1<=w2.heap.size):UJ w w2 wr' n A0 A1 M0 M1 P:=by
 obtain⟨U,hU,hav⟩:=h.rows;have:=h.sz;exact⟨Xe h.bel k,Nat.le_trans h.sz k.size,(k.block _ hf).trans h.fb,fun q q1 q2=>(k.block q oM).trans (h.same q q1 q2),U,hU.below k,hav⟩
theorem UJ.fresh(h:UJ w w2 wr n A0 A1 0 0 P)(M1:Nat):UJ w w2 wr n A0 A1 wr.heap.size M1 P:=by
 obtain⟨U,hU,hav⟩:=h.rows;exact⟨h.bel,h.sz,h.fb,h.same,U,hU,fun i g hi e=>⟨(hav i g hi e).1,Or.inl ((hU.2.1 i hi).lt g e).2⟩⟩
theorem UJ.forget(h:UJ w w2 wr n A0 A1 M0 M1 P):UJ w w2 wr n A0 A1 0 0 P:=by
 obtain⟨U,hU,hav⟩:=h.rows;exact⟨h.bel,h.sz,h.fb,h.same,U,hU,fun i g hi e=>⟨(hav i g hi e).1,Or.inr (Nat.zero_le _)⟩⟩
theorem UJ.congr{P':Nat->List Int}(h:UJ w w2 wr n A0 A1 M0 M1 P)(e:∀i,i<n->P i=P' i):UJ w w2 wr n A0 A1 M0 M1 P':=by
 obtain⟨U,hU,hav⟩:=h.rows;exact⟨h.bel,h.sz,h.fb,h.same,U,hU.congr e,hav⟩
theorem UJ.grown{M:Nat}(h:UJ w w2 wr n A0 A1 M0 M1 P)(k:wr.grownBy wr' (some M))(hM:M0<=M/\M<M1)(hA:A1<=M0)(hf:w.heap.size+1<M0)(hw:w.heap.size+1<wr.heap.size)(hA2:A1<=w2.heap.size):UJ w w2 wr' n A0 A1 M0 M1 P:=by
 obtain⟨U,hU,hav⟩:=h.rows;have hsz:=h.sz;refine⟨h.bel.grown k oM (fun q e=>by cases e;omega),Nat.le_trans h.sz k.size,(k.block _ oM (fun e=>by injection e with e;omega)).trans h.fb,fun q q1 q2=>(k.block q oM (fun e=>by injection e with e;omega)).trans (h.same q q1 q2),U,⟨hU.1.of_block (k.block _ hw (fun e=>by injection e with e;omega)),fun i hi=>?_,hU.2.2⟩,hav⟩;refine(hU.2.1 i hi).kept k ?_;cases e:(U i).ownBlock with
 | none=>exact Or.inl rfl
 | some g=>exact Or.inr (fun e2=>by injection e2 with e2;have:=(hav i g hi e).2;omega)
theorem UJ.push{w1:World}{ob:Obj}{t:Nat}{x:Int}{v':Value}{U:Nat->Value}(h:UJ w w2 wr n A0 A1 M0 M1 P)(hU:Za wr (w.heap.size+1) n P U)(hav:∀i g,i<n->(U i).ownBlock=some g->(g<A0\/A1<=g)/\(g<M0\/M1<=g))(ht:t<n)(hg:(wr.alloc ob).grownBy w1 (U t).ownBlock)(ho:w1.ownsRow (w.heap.size+1+1) 2 1 v' ((P t).length+1) ((P t).map (Value.int .i64)++[.int .i64 x]))(hat:v'.ownBlock=(U t).ownBlock\/v'.ownBlock=some (wr.heap.size+1))(hA:A1<=w2.heap.size)(hM:M1<=wr.heap.size)(hA0:w.heap.size+1<A0)(hM0:w.heap.size+1<M0) :
 UJ w w2 (w1.setCell ⟨w.heap.size+1,t,none⟩ v') n A0 A1 M0 M1 (fun i=>if i=t then P t++[x]else P i)/\Xu M0 M1 wr (w1.setCell ⟨w.heap.size+1,t,none⟩ v')/\w1.cell? ⟨w.heap.size+1,t,none⟩=some (U t)/\w1.frozen? ⟨w.heap.size+1,t,none⟩=false:=by
 have hsz:=h.sz;have hGl:=hU.1.lt;have hgs:=hg.size;have has:(wr.alloc ob).heap.size=wr.heap.size+1:=World.size_alloc _ _;have hal:∀k,k<wr.heap.size->(wr.alloc ob).heap[k]?=wr.heap[k]?:=fun k hk=>Below.heap_alloc _ _ _ hk
 have hst:=(hU.alloc ob).step ht x v' hg ho (by rw[has];exact hat);have hbk:∀k,k<wr.heap.size->k≠w.heap.size+1->some k≠(U t).ownBlock->(w1.setCell ⟨w.heap.size+1,t,none⟩ v').heap[k]?=wr.heap[k]?:=fun k h1 h2 h3=>(Below.heap_setCell _ _ _ _ h2).trans ((hg.block k oM h3).trans (hal k h1))
 have hnu:∀k,k<=w.heap.size+1->some k≠(U t).ownBlock:=fun k hk e=>by have:=((hU.2.1 t ht).lt k e.symm).1;omega
 have hbG:w1.heap[w.heap.size+1]?=wr.heap[w.heap.size+1]?:=(hg.block _ oM (hnu _ (Nat.le_refl _))).trans (hal _ hGl);refine⟨⟨?_,by rw[Xd];omega,(hbk _ oM oM (hnu _ oM)).trans h.fb,fun q q1 q2=>(hbk q oM oM (fun e=>by have:=(hav t q ht e.symm).1;omega)).trans (h.same q q1 q2),_,hst,fun i g hi e=>?_⟩,fun q q1 q2=>hbk q oM oM (fun e=>by have:=(hav t q ht e.symm).2;omega),(Xc hbG).trans (hU.1.cell ht),(World.frozen?_of_block hbG).trans (hU.1.frozen t)⟩
 ·exact⟨hg.os.trans h.bel.os,hg.tape.trans h.bel.tape,hg.output.trans h.bel.output,by rw[Xd];omega,fun k hk=>(hbk k oM oM (hnu k oM)).trans (h.bel.block k hk)⟩
 ·by_cases e1:i=t
  ·subst e1
   simp only[if_true]at e;rcases hat with q | q
   ·exact hav i g hi (by rw[<-q];exact e)
   ·rw[q]at e
    have:=Option.some.inj e;omega
  ·simp only[e1,if_false]at e
   exact hav i g hi e
end
theorem ZeF(v:Int)(a:Option Addr)(n c:Nat)(xs:List Xi)(L B:Nat)(w:World)(ha:Hid (Xl w L B a xs))(hx:Hid (n=xs.length))(hB:B<=w.heap.size)(hok:Hid (Up xs)) :
 Calls Tryz.prog 45 #[.agg #[.int .i64 v,.slice a n c]] w fun e w'=>∃a' c',e=.returned (.slice a' n c')/\Below w.heap.size w w'/\XF w' w.heap.size w'.heap.size a' ((List.range n).map fun b:Nat=>Xh (YH (Xx xs) n b)):=by
 obtain⟨i0,hi0,hz0,hz1,hz2'⟩:=X7 Tryz.info2';have hn2:n<=1000:=by have:=hok.n2;have:=hx.out;omega
 have hn1:0<n:=by have:=hok.n1;have:=hx.out;omega
 have HRE:Hid (∀x,Re (Xx xs) x->x<n):=Xa (by rw[hx.out];exact hok.re);have HRC:=Xa (fun W (hb:Below w.heap.size w W) z=>T6 v a n c z xs L B W (Xa (ha.keep (hb.mono hB))) hx hn2 hn1 (by have:=hb.size;omega) (Xa (by rw[hx.out];exact hok.tgt)));have hmk:=Z5 (P:=Tryz.prog) 45 62 (.agg #[.slice none 0 0]) 1 24 Tryz.underlying45 Tryz.infoSetI n oM oM;have hmc:madeCells (Value.agg #[.slice none 0 0]).cells (n*1)=madeCells #[.slice none 0 0] n:=by rw[Nat.mul_one];rfl
 rw[hmc]at hmk;have hmb:=run_make_row' (P:=Tryz.prog) 46 4 (.bool false) 1 Tryz.underlying46 Tryz.infoBo rfl .i64 .i64 n oM oM;clear hmc
 go_enter Tryz.func45,Tryz.ntmps45
 go_wp2_with fail
 refine(HRC.out _ (Xb (Xb (Below.refl _ _) _) _) (-1)).mono ?_;rintro e w2 ⟨v2,F,rfl,hb2,ho2,hnd2,hm2⟩;obtain⟨a2,c2,rfl,hi2⟩:=Xj (xs:=Xh F) (by rw[<-TM];exact ho2);have HM2:Hid (∀x,x∈F↔Re (Xx xs) x):=Xa (fun x=>(hm2 x).trans (WW vZ));have HND:=Xa hnd2;have hlF:(Xh F).length<=1000:=by rw[XV];exact Nat.le_trans (YB hnd2 (fun x hx=>HRE.out x ((HM2.out x).1 hx))) hn2
 have hz2:w.heap.size+2<=w2.heap.size:=by have:=hb2.size;simp at this;omega
 have HI2:Hid (Xg w2 (w.heap.size+2) w2.heap.size a2 (Xh F)):=Xa (by simpa using hi2);have HD0:Hid (UJ w w2 w2 n (w.heap.size+2) w2.heap.size 0 0 (KL (Xx xs) 0)):=Xa (by
  have hr:=Za.born (w.alloc (.cells #[.int .i64 v,.slice a n c] 32)) n;rw[World.size_alloc]at hr;refine⟨Xe (Xb (Xb (Below.refl _ _) _) _) hb2,Nat.le_refl _,rfl,Xu.refl _ _ _,_,(hr.below hb2).congr (fun i _=>by simp[KL,Xh]),fun i g hi e=>by cases e⟩)
 have f0:w2.cell? ⟨w.heap.size,0,none⟩=some (.int .i64 v):=(hb2.cell (p:=⟨w.heap.size,0,none⟩) (by show w.heap.size<_;simp;omega)).trans (by simp[go_sem]);have f1:w2.cell? ⟨w.heap.size,1,none⟩=some (.slice a n c):=(hb2.cell (p:=⟨w.heap.size,1,none⟩) (by show w.heap.size<_;simp;omega)).trans (by simp[go_sem]);have HFC:=Xa (show _/\_ from⟨f0,f1⟩);clear hb2 ho2 hi2 hm2 hnd2 f0 f1;obtain⟨lF,hlF2⟩:∃lF,lF=(Xh F).length:=⟨_,rfl⟩;rw[<-hlF2]at hlF |-;have HLF:=Xa hlF2;clear hlF2
 go_wp2_with fail
 go_loopw [5] (fun u wr=>∃k:Nat,k<=n/\u=.int .i64 k/\Hid (UJ w w2 wr n (w.heap.size+2) w2.heap.size 0 0 (KL (Xx xs) k))) (fun u _=>n-(intOf u).toNat)
 case atStart=>exact⟨0,Nat.zero_le _,rfl,HD0⟩
 case round =>
  clear HD0;obtain⟨k,hk,rfl,HD⟩:=hrel;have hwz:=HD.sz;have hlw:w.heap.size<wr.heap.size:=oM;have g0:=(Xc HD.fb).trans HFC.1;have g1:=(Xc HD.fb).trans HFC.2;by_cases hlt:k<n
  ·have HIr:Hid (Xg wr (w.heap.size+2) w2.heap.size a2 (Xh F)):=Xa (HI2.keepS HD.same)
   have HHA:=Xa (XS a2 lF c2 k (Xh F) (w.heap.size+2) w2.heap.size wr HIr HLF oM)
   go_wp2_with fail
   refine HHA.mono ?_;rintro e w3 ⟨rfl,hw3⟩;rw[hw3];clear hw3 HHA;cases hh:hasI (Xh F) (k:Int)with
   | false =>
    have HNR:Hid (¬Re (Xx xs) k):=Xa (fun h=>by
     have:=UT.2 ((HM2.out k).2 h);rw[hh]at this;cases this)
    clear hh
    go_wp2_with fail
    exact⟨⟨k+1,oM,gM,Xa (HD.congr (fun i _=>(ZdY HNR.out i).symm))⟩,by simp[intOf];omega⟩
   | true =>
    have HRK:Hid (Re (Xx xs) k):=Xa ((HM2.out k).1 (UT.1 hh));clear hh;have HDM:=Xa ((HD.below (Xb (Below.refl _ _) (.cells (madeCells #[.bool false] n) 4)) hlw (Nat.le_refl _)));have HRL:Hid ((wr.alloc (.cells (madeCells #[.bool false] n) 4)).rowIs wr.heap.size 4 n (fun _=>.bool false)):=Xa (World.rowIs_made wr (.bool false) n 4)
    go_wp2_with fail
    refine(HRC.out _ (Xb HD.bel _) (k:Int)).mono ?_;rintro e w5 ⟨v5,Fa,rfl,hb5,ho5,hnd5,hm5⟩;obtain⟨a5,c5,rfl,hi5⟩:=Xj (xs:=Xh Fa) (by rw[<-TM];exact ho5);have HM5:Hid (∀x,x∈Fa↔Av (Xx xs) k x):=Xa (fun x=>(hm5 x).trans ZgJ);have hlA:(Xh Fa).length<=1000:=by rw[XV];exact Nat.le_trans (YB hnd5 (fun x hx=>HRE.out x (ZeS ((HM5.out x).1 hx)))) hn2
    have hz5:wr.heap.size+1<=w5.heap.size:=by have:=hb5.size;simp at this;omega
    have HI5:Hid (Xg w5 (wr.heap.size+1) w5.heap.size a5 (Xh Fa)):=Xa (by simpa using hi5);have HR5:Hid (w5.rowIs wr.heap.size 4 n (fun _=>.bool false)):=Xa (HRL.of_block (hb5.block _ sP));have HD5:Hid (UJ w w2 w5 n (w.heap.size+2) w2.heap.size wr.heap.size w5.heap.size (KL (Xx xs) k)):=Xa ((((HD.fresh w5.heap.size).below (Xb (Below.refl _ _) (.cells (madeCells #[.bool false] n) 4)) hlw (Nat.le_refl _))).below hb5 (by simp;omega) (Nat.le_refl _));obtain⟨lA,hlA2⟩:∃lA,lA=(Xh Fa).length:=⟨_,rfl⟩;rw[<-hlA2]at hlA |-;have HLA:=Xa hlA2;have HNA:=Xa hnd5;clear hb5 ho5 hi5 hm5 hnd5 hlA2 HDM HRL HD g0 g1;obtain⟨M,hM⟩:∃M,M=wr.heap.size:=⟨_,rfl⟩;rw[<-hM]at hz5 HI5 HR5 HD5 hwz hlw |-;clear hM HIr;generalize wr=wo at *
    go_wp2_with fail
    go_loopw [8] (fun u wi=>∃i:Nat,i<=lA/\u=.int .i64 i/\Hid (w5.grownBy wi (some M))/\Hid (wi.rowIs M 4 n (fun z=>.bool (decide (z∈Fa.take i))))) (fun u _=>lA-(intOf u).toNat)
    case atStart=>exact⟨0,Nat.zero_le _,rfl,Xa (World.grownBy.refl _ _),Xa (HR5.congr (fun z _=>sP))⟩
    case round =>
     obtain⟨i,hi,rfl,HGi,HRi⟩:=hrel;by_cases hil:i<lA
     ·have hix:i<Fa.length:=by have:=HLA.out;rw[XV]at this;omega
      obtain⟨b6,o6,rfl,hb6,e6⟩:=HI5.out i (by rw[XV];exact hix);have hnj:(Xh Fa)[i]'(by rw[XV];exact hix)=((Fa[i]:Nat):Int):=by simp[Xh]
      rw[hnj]at e6;have e6w:=(World.cell?_of_block (a:=⟨b6,o6+i,none⟩) (HGi.block b6 hb6.2 (fun e=>by injection e with e;omega))).trans e6;have hfn:Fa[i]<n:=HRE.out _ (ZeS ((HM5.out _).1 (List.getElem_mem hix)));have HTK:Hid (∀z,z∈Fa.take (i+1)↔z∈Fa.take i\/z=Fa[i]):=Xa (fun z=>ZY hix);clear e6 hnj;generalize Fa[i]=x at *;have cx:=HRi.cell hfn;have fx:=HRi.frozen x
      go_wp2_with fail
      refine⟨⟨i+1,oM,gM,Xa (HGi.trans ⟨rfl,rfl,rfl,by simp[World.setCell],fun k _ hk=>Below.heap_setCell _ _ _ _ (fun e=>hk (by rw[e]))⟩),Xa ((Kl (C:=Value.bool) HRi.out x true).congr (fun z _=>?_))⟩,by simp[intOf];omega⟩;by_cases e:z=x
      ·rw[if_pos e,decide_eq_true ((HTK.out z).2 (Or.inr e))]
      ·rw[if_neg e]
       have:(z∈Fa.take (i+1))↔z∈Fa.take i:=(HTK.out z).trans ⟨fun h=>h.resolve_right e,Or.inl⟩;rw[decide_eq_decide.2 this]
     ·have HTE:Hid (Fa.take i=Fa):=Xa (List.take_of_length_le (by have:=HLA.out;rw[XV]at this;omega))
      rw[HTE.out]at HRi;have HDi:=Xa (HD5.grown HGi.out ⟨Nat.le_refl _,oM⟩ oM oM oM (Nat.le_refl _));have HD9:Hid (UJ w w2 wr n (w.heap.size+2) w2.heap.size M w5.heap.size (YO (Xx xs) F Fa k 0)):=Xa (HDi.congr (fun b _=>(Zck F Fa k b).symm));have hzw:=HGi.size;clear HTE HGi HR5 HD5 HI5 HDi;generalize wr=w7 at *
      go_wp2_with fail
      go_loopw [9] (fun u wi=>∃i:Nat,i<=lF/\u=.int .i64 i/\Hid (UJ w w2 wi n (w.heap.size+2) w2.heap.size M w5.heap.size (YO (Xx xs) F Fa k i))/\Hid (Xu M w5.heap.size w7 wi)/\Hid (w7.heap.size<=wi.heap.size)) (fun u _=>lF-(intOf u).toNat)
      case atStart=>exact⟨0,Nat.zero_le _,rfl,HD9,Xa (Xu.refl _ _ _),Xa (Nat.le_refl _)⟩
      case round =>
       clear HD9;obtain⟨j,hj,rfl,HDj,HSj,HZj⟩:=hrel;by_cases hjl:j<lF
       ·have hjx:j<F.length:=by have:=HLF.out;rw[XV]at this;omega
        obtain⟨b6,o6,rfl,hb6,e6⟩:=HI2.out j (by rw[XV];exact hjx);have hnj:(Xh F)[j]'(by rw[XV];exact hjx)=((F[j]:Nat):Int):=by simp[Xh]
        rw[hnj]at e6;have e6w:=(World.cell?_of_block (a:=⟨b6,o6+j,none⟩) (HDj.same b6 hb6.1 hb6.2)).trans e6;have hfn:F[j]<n:=HRE.out _ ((HM2.out _).1 (List.getElem_mem hjx));have HRj:Hid (wr.rowIs M 4 n (fun z=>.bool (decide (z∈Fa)))):=Xa (HRi.of_block (HSj.out M (Nat.le_refl _) oM));have cx:=HRj.cell hfn;have hzj:=HZj.out;have hwj:w5.heap.size<=wr.heap.size:=oM;by_cases hin:F[j]∈Fa
        ·have HDN:=Xa (fun b=>Zfw (tg:=Xx xs) (k:=k) hjx hin b)
         rw[decide_eq_true hin]at cx;clear e6 hnj hin;generalize F[j]=x at *
         go_wp2_with fail
         exact⟨⟨j+1,oM,gM,Xa (HDj.congr (fun b _=>(HDN.out b).symm)),HSj,HZj⟩,by simp[intOf];omega⟩
        ·have HDN:=Xa (fun b=>Zd2 (tg:=Xx xs) (k:=k) HND.out hjx hin b)
         rw[decide_eq_false hin]at cx;clear e6 hnj hin;generalize F[j]=x at *;obtain⟨U,hU,hav⟩:=HDj.rows;have HU:=Xa hU;have HAV:=Xa hav;obtain⟨ua,uc,hux,_⟩:=Xj (hU.2.1 x hfn);have cU:=hU.1.cell hfn;have fU:=hU.1.frozen x;have HUX:=Xa hux;rw[hux]at cU;have hul:(YO (Xx xs) F Fa k j x).length<=1001:=Nat.le_trans (Zen F Fa k j x) oM;obtain⟨ul,hul2⟩:∃ul,ul=(YO (Xx xs) F Fa k j x).length:=⟨_,rfl⟩;rw[<-hul2]at cU hul;have HUL:=Xa hul2;have HOX:Hid (wr.ownsRow (w.heap.size+1+1) 2 1 (.slice ua ul uc) ul ((YO (Xx xs) F Fa k j x).map (Value.int .i64))):=Xa (by have h:=hU.2.1 x hfn;rw[hux,<-hul2]at h;exact h);have hGl:=hU.1.lt;have hnb:b6≠w.heap.size+1:=oM;have hbl6:b6<wr.heap.size:=oM;clear hU hav hux hul2
         go_wp2_with fail
         refine ZB (fun w'=>w'.cell? ⟨b6,o6+j,none⟩=some (.int .i64 (x:Int))) (fun hHeld=>?_);refine XE 0 ?_;refine XE 1 ?_;refine XE 2 ?_;refine XE 3 ?_;refine XE 4 ?_;refine XE 5 ?_;refine XE 6 ?_;refine XE 7 ?_;refine XE 8 ?_;refine XE 9 ?_;refine XE 10 ?_;refine XE 11 ?_;refine XE 13 ?_;refine wpAnyH_ready (rs:=[12,14]) kR sP ?_;refine(AllReadyH.cons rfl (fun K hK=>?_) (AllReadyH.cons rfl (fun K hK=>?_) AllReadyH.nil));go_simp;refine hK _ _ kP (fun hHeld=>?_);clear hK
         try simp only[Act.put,xA,xB,xC,xD,xE,xF]
         refine Xz 14 (fun K hK=>?_);go_simp;refine hK _ _ kP (fun hHeld=>?_);clear hK;rotate_left;go_simp;refine hK _ _ kP (fun hHeld=>?_);clear hK
         try simp only[Act.put,xA,xB,xC,xD,xE,xF]
         refine Xz 12 (fun K hK=>?_);go_simp;refine hK _ _ kP (fun hHeld=>?_);clear hK
         all_goals (
          refine Xz 15 (fun K hK=>?_);refine XC rfl _ _ 26 rfl (w.heap.size+1+1) 2 i0 (.int .i64 0) 1 8 Tryz.underlying26 hi0 hz0 hz1 hz2' rfl vZ (.slice ua ul uc) ul ((YO (Xx xs) F Fa k j x).map (Value.int .i64)) rfl ?s1 ⟨wr.heap.size,0,none⟩ 1 1 [.int .i64 (k:Int)] rfl rfl ?s2 ?s3 ?s4 ?s5 ?s6 ?_
          case s1=>exact(ZaT HOX.out).alloc _
          case s2=>exact XY _ _ _
          case s3=>intro u hu;simp at hu;subst hu;rfl
          case s4=>unfold maxLen;omega
          case s5=>omega
          case s6=>simp;omega
          intro v8 w8 hown8 hg8 _ hat8;obtain⟨g8,c8,rfl,hg8r,_⟩:=Xp hown8 oM;obtain⟨hD8,hS8,ce8,fe8⟩:=(HDj.below (Below.refl wr.heap.size wr).drew oM (Nat.le_refl _)).push (x:=(k:Int)) (t:=x) (HU.below (Below.refl wr.heap.size wr).drew) HAV.out hfn (by rw[HUX.out,<-HUL.out];exact hg8) (by rw[<-HUL.out];exact hown8) (by rw[HUX.out,<-HUL.out];simpa using hat8) (Nat.le_refl _) (by show w5.heap.size<=wr.heap.size;omega) oM oM;rw[HUX.out,<-HUL.out]at ce8;have z6:w8.cell? ⟨b6,o6+j,none⟩=some (.int .i64 (x:Int)):=by
           have h1:=hg8.block b6 (by simp;omega) (fun e=>by
            have h2:=HAV.out x b6 hfn (by rw[HUX.out,<-HUL.out];exact e.symm);omega)
           have h3:(wr.drew.alloc (.cells #[.int .i64 (k:Int)] 2)).heap[b6]?=wr.heap[b6]?:=Below.heap_alloc wr.drew _ _ hbl6;exact(Xc (h1.trans h3)).trans e6w
          have HD8:=Xa hD8;have HS8:Hid (Xu M w5.heap.size w7 (w8.setCell ⟨w.heap.size+1,x,none⟩ (.slice (some ⟨g8,0,none⟩) (ul+1) c8))):=Xa (fun q q1 q2=>(hS8 q q1 q2).trans (HSj.out q q1 q2));have HZ8:Hid (w7.heap.size<=(w8.setCell ⟨w.heap.size+1,x,none⟩ (.slice (some ⟨g8,0,none⟩) (ul+1) c8)).heap.size):=Xa (by rw[Xd];have:=hg8.size;simp at this;omega);clear hown8 hg8 hat8 hD8 hS8;refine hK _ _ z6 (fun hHeld=>?_);clear hK;refine XE 16 ?_;refine XE 17 ?_;refine Xz 18 (fun K hK=>?_);go_simp;refine hK _ _ ((Xc (Below.heap_setCell _ _ _ _ hnb)).trans z6) (fun hHeld=>?_);clear hK;refine Zu ?_;clear hHeld ce8 fe8 z6;generalize w8.setCell ⟨w.heap.size+1,x,none⟩ (.slice (some ⟨g8,0,none⟩) (ul+1) c8)=w9 at *
          go_wp2_with fail
          exact⟨⟨j+1,oM,gM,Xa (HD8.congr (fun b _=>(HDN.out b).symm)),HS8,HZ8⟩,by simp[intOf];omega⟩)
       ·have HTE:Hid (∀b,YO (Xx xs) F Fa k j b=KL (Xx xs) (k+1) b):=Xa (fun b=>Zcb HM2.out HM5.out HRK.out (by have:=HLF.out;rw[XV]at this;omega) b)
        go_wp2_with fail
        exact⟨⟨k+1,oM,gM,Xa ((HDj.congr (fun b _=>HTE.out b)).forget)⟩,by simp[intOf];omega⟩
  ·have hke:k=n:=oM
   subst hke
   go_wp2_with fail
   go_ret
   obtain⟨U,hU,_⟩:=HD.rows;exact⟨_,_,rfl,HD.bel,(hU.ints).mono oM (Nat.le_refl _)⟩
end
end Go.Proofs.YthgikffcdgpgiaaGreatDoor
