import Derived.Test.YthgikffcdgpgiaaGreatDoorW2
namespace Go.Proofs.YthgikffcdgpgiaaGreatDoor
open Go.RowKit
set_option maxHeartbeats 400000 in
theorem toPhi_any (d:Int) (a:Option Addr) (n c:Nat) (xs:List Int) (L B:Nat) (w:World) (ha:Hid (IntsAt w L B a xs)) (hx:Hid (n=xs.length)) (hn:n≤1048576) (hB:B≤w.heap.size) :
  Calls Tryz.prog 119 #[.agg #[.int .i64 d,.slice a n c]] w fun e w'=>∃a' c',e=.returned (.agg #[.int .i64 d,.slice a' n c'])∧Below w.heap.size w w'∧IntsAt w' w.heap.size w'.heap.size a' xs∧Thaw w.heap.size w':=by
 go_enter Tryz.func119,Tryz.ntmps119
 go_wp2_with fail
 refine (toInts_any _ _ _ xs L B _ ?q1 hx hn ?q2).mono ?_
 case q1=>exact ha.out.keep ((((Below.refl _ _).alloc (by omega) _).alloc (by simp;omega) _).alloc (by simp;omega) _)
 case q2=>simp;omega
 rintro e w1 ⟨c',rfl,hb1,hi1,ht1⟩
 have HT1:=hide (((((Thaw.start w).alloc _ _).alloc _ _).alloc _ _).trans hb1 ht1)
 clear ht1
 have b1:=bnext (balloc (balloc (balloc (Below.refl w.heap.size w) _) _) _) hb1
 have hz1:=hb1.size
 simp at hz1
 have hz2:w.heap.size<w1.heap.size:=by omega
 have hz3:w.heap.size+1<w1.heap.size:=by omega
 have hz4:w.heap.size+1+1<w1.heap.size:=by omega
 obtain ⟨hc1,hf1⟩:=bcell hb1
 have HI:=hide hi1
 clear hi1
 go_wp2
 refine bodyPost_ret (v:=.agg #[.int .i64 d,.slice (some ⟨w.heap.size+1+1+1,0,none⟩) n c']) (by simp [results,Tryz.results119,go_sem,hc1]) rfl ⟨_,_,rfl,?_,?_,((HT1.out.setCell _ _).setCell _ _).setCell _ _⟩
 ·exact ((b1.setCell (by simp;omega) _).setCell (by simp) _).setCell (by simp) _
 ·have h:=HI.out
  simp only [World.size_alloc] at h
  exact (h.keepS ((((Same.refl _ _ _).setCell (Or.inl (by simp)) _).setCell (Or.inl (by simp)) _).setCell (Or.inl (by simp)) _)).mono (by omega) (by simp only [size_setCell];omega)
theorem Tryz.infoPhi:(Tryz.prog.info? 64).map (fun i=>(i.zero,i.size,i.bytes))=some (some (.agg #[.int .i64 0,.slice none 0 0]),2,32):=by kernel_rfl
set_option maxHeartbeats 400000 in
theorem toPhis_any (a:Option Addr) (n c:Nat) (xs:List Ph) (L B:Nat) (w:World) (ha:Hid (PhsAt w L B a xs)) (hx:Hid (n=xs.length)) (hs:Hid (PhLen xs)) (hn:n≤1048576) (hB:B≤w.heap.size) :
  Calls Tryz.prog 83 #[.slice a n c] w fun e w'=>∃c',e=.returned (.slice (some ⟨w.heap.size,0,none⟩) n c')∧Below w.heap.size w w'∧PhsAt w' w.heap.size w'.heap.size (some ⟨w.heap.size,0,none⟩) xs∧Thaw w.heap.size w':=by
 have hmk:=run_make_rows (P:=Tryz.prog) 52 64 _ 2 32 Tryz.underlying52 Tryz.infoPhi n (by omega) (by omega)
 go_enter Tryz.func83,Tryz.ntmps83
 go_wp2
 go_loopw [4] (fun i wr=>∃k:Nat,k≤n∧i=.int .i64 k∧Below w.heap.size w wr∧w.heap.size<wr.heap.size∧Hid (Thaw w.heap.size wr)∧Hid (∃f,wr.rowIs w.heap.size 64 (n*2) f)∧Hid (∀j (h:j<xs.length),j<k→PhAt wr (w.heap.size+1) wr.heap.size w.heap.size (j*2) xs[j])) (fun i _=>n-(intOf i).toNat)
 case atStart=>exact ⟨0,Nat.zero_le _,rfl,balloc (Below.refl _ _) _,by simp,(Thaw.start _).alloc _ _,⟨_,rowIs_born _ _ _ _⟩,fun j _ h=>absurd h (by omega)⟩
 case round =>
  obtain ⟨k,hk,rfl,hw,hsz,hth,hf,hg⟩:=hrel
  by_cases hlt:k<n
  ·have hkx:k<xs.length:=by have:=hx.out;omega
   obtain ⟨b,o,rfl,⟨_,hbB⟩,hc⟩:=ha.out k hkx
   obtain ⟨aa,cc,e0,e1,hi⟩:=hc.keep (hw.mono hB) (by omega)
   have HI:=hide hi
   have hq:=hs.out _ (List.getElem_mem hkx)
   have hBr:B≤wr.heap.size:=by have:=hw.size;omega
   obtain ⟨f,hr⟩:=hf.out
   have HR:=hide hr
   clear hc hf hr hi
   generalize hX:xs[k]=X at *
   have HX:=hide hX
   clear hX
   go_wp2_with (go_at_call 119;refine (toPhi_any _ _ _ _ X.args L B _ HI rfl hq hBr).mono ?_;rintro e w1 ⟨a1,c1,rfl,hb1,hi1,ht1⟩;have HT1:=hide ht1;clear ht1;have hr1:=HR.out.of_block (hb1.block _ HR.out.lt);have g0:=hr1.cell (i:=k*2) (by omega);have g1:=hr1.cell (i:=k*2+1) (by omega);have z0:=hr1.frozen (k*2);have z1:=hr1.frozen (k*2+1);have HR1:=hide hr1;clear hr1;have HI1:=hide hi1;clear hi1)
   have hX:=unhide HX
   subst hX
   have hz1:=hb1.size
   have h1:∀j (h:j<xs.length),j<k→PhAt w1 (w.heap.size+1) w1.heap.size w.heap.size (j*2) xs[j]:=fun j h hj=>((hg.out j h hj).keepS (Same.of_below hb1) (hb1.block _ HR.out.lt)).mono (Nat.le_refl _) hz1
   have h2:=ph_step HR1.out (Nat.lt_succ_self _) xs k hkx (by have:=hx.out;omega) h1 a1 c1 (HI1.out.mono (by omega) (Nat.le_refl _))
   have h3:=size_setCells w.heap.size [.int .i64 xs[k].dst,.slice a1 xs[k].args.length c1] (k*2) w1
   exact ⟨⟨k+1,by omega,by go_num,below_setCells _ [.int .i64 xs[k].dst,.slice a1 xs[k].args.length c1] (k*2) _ _ (bnext hw hb1) (Nat.le_refl _),by simp only [size_setCell];omega,((hth.out.trans hb1 HT1.out).setCell _ _).setCell _ _,rowIs_setCells [.int .i64 xs[k].dst,.slice a1 xs[k].args.length c1] (k*2) _ _ HR1.out,fun j h hj=>(h2 j h hj).mono (Nat.le_refl _) (Nat.le_of_eq h3.symm)⟩,by simp [intOf];omega⟩
  ·go_wp2
   go_ret
   obtain ⟨f,hr⟩:=hf.out
   refine ⟨_,rfl,hw,fun j hj=>⟨w.heap.size,0,rfl,⟨Nat.le_refl _,hr.lt⟩,?_⟩,hth.out⟩
   rw [Nat.zero_add]
   exact (hg.out j hj (by have:=hx.out;omega)).mono (by omega) (Nat.le_refl _)
set_option maxHeartbeats 1000000 in
theorem toBlock_any (p i:Option Addr) (n pc m ic:Nat) (t0 t1 t2 t3:Int) (xs:List Ph) (ys:List Ins) (L B:Nat) (w:World) (ha:Hid (PhsAt w L B p xs)) (hb:Hid (InssAt w L B i ys)) (hx:Hid (n=xs.length)) (hy:Hid (m=ys.length)) (hs:Hid (PhLen xs)) (hn:n≤1048576) (hm:m≤1048576) (hB:B≤w.heap.size) :
  Calls Tryz.prog 51 #[.agg #[.slice p n pc,.slice i m ic,.int .i64 t0,.int .i64 t1,.int .i64 t2,.int .i64 t3]] w fun e w'=>∃p' c' i' d',e=.returned (.agg #[.slice p' n c',.slice i' m d',.int .i64 t0,.int .i64 t1,.int .i64 t2,.int .i64 t3])∧Below w.heap.size w w' ∧
   PhsAt w' w.heap.size w'.heap.size p' xs∧InssAt w' w.heap.size w'.heap.size i' ys∧Thaw w.heap.size w':=by
 go_enter Tryz.func51,Tryz.ntmps51
 go_wp2_with fail
 refine (toPhis_any _ _ _ xs L B _ ?q1 hx hs hn ?q2).mono ?_
 case q1=>exact ha.out.keep ((((Below.refl _ _).alloc (by omega) _).alloc (by simp;omega) _).alloc (by simp;omega) _)
 case q2=>simp;omega
 rintro e w1 ⟨c',rfl,hb1,hi1,ht1⟩
 have HT1:=hide (((((Thaw.start w).alloc _ _).alloc _ _).alloc _ _).trans hb1 ht1)
 clear ht1
 have b1:=bnext (balloc (balloc (balloc (Below.refl w.heap.size w) _) _) _) hb1
 have hz1:=hb1.size
 simp at hz1
 have hz2:w.heap.size<w1.heap.size:=by omega
 have hz3:w.heap.size+1<w1.heap.size:=by omega
 have hz4:w.heap.size+1+1<w1.heap.size:=by omega
 obtain ⟨hc1,hf1⟩:=bcell hb1
 have HI:=hide hi1
 clear hi1
 go_wp2_with fail
 refine (toInstrs_any _ _ _ ys L B _ ?q3 hy hm ?q4).mono ?_
 case q3=>exact hb.out.keep ((b1.setCell (by simp;omega) _).mono hB)
 case q4=>simp only [size_setCell];omega
 rintro e w2 ⟨d',rfl,hb2,hj1,ht2⟩
 have HT2:=hide ((HT1.out.setCell _ _).trans hb2 ht2)
 clear ht2
 have hz5:=hb2.size
 simp only [size_setCell] at hz5
 have hz6:w.heap.size<w2.heap.size:=by omega
 have hz7:w.heap.size+1<w2.heap.size:=by omega
 have hz8:w.heap.size+1+1<w2.heap.size:=by omega
 obtain ⟨hc2,hf2⟩:=bcell hb2
 simp only [size_setCell] at hc2 hf2 hj1
 have HJ:=hide hj1
 clear hj1
 have S2:Same (w.heap.size+1+1+1) w1.heap.size w1 w2:=((Same.refl _ _ _).setCell (Or.inl (by simp)) _).trans (Same.of_below (hb2.mono (by simp only [size_setCell];omega)))
 have B2:=hide (bnext (b1.setCell (p:=⟨w.heap.size+1+1,0,none⟩) (by simp;omega) _) hb2)
 have HS2:=hide S2
 clear S2
 go_wp2_with fail
 refine (toTerm_any _ _ _ _ _).mono ?_
 rintro e w3 ⟨rfl,hb3,ht3⟩
 have HT3:=hide ((HT2.out.setCell _ _).trans hb3 ht3)
 clear ht3
 have hz9:=hb3.size
 simp only [size_setCell] at hz9
 obtain ⟨hc3,hf3⟩:=bcell hb3
 simp only [size_setCell] at hc3 hf3
 go_wp2
 refine bodyPost_ret (v:=.agg #[.slice (some ⟨w.heap.size+1+1+1,0,none⟩) n c',.slice (some ⟨w1.heap.size,0,none⟩) m d',.int .i64 t0,.int .i64 t1,.int .i64 t2,.int .i64 t3]) (by simp [results,Tryz.results51,go_sem,hc1,hc2,hc3,hz3,hz7]) rfl ⟨_,_,_,_,rfl,?_,?_,?_,?_⟩
 ·repeat (refine Below.setCell ?_ (by dsimp only;omega) _)
  exact bnext (B2.out.setCell (p:=⟨w.heap.size+1+1,1,none⟩) (by dsimp only;omega) _) hb3
 ·have h:=HI.out
  simp only [World.size_alloc] at h
  refine (PhsAt.keepS h (?_:Same _ _ w1 _)).mono (by omega) (by simp only [size_setCell];omega)
  repeat (refine Same.setCell ?_ (Or.inl (by dsimp only;omega)) _)
  exact (HS2.out.setCell (Or.inl (by dsimp only;omega)) _).trans (Same.of_below (hb3.mono (by simp only [size_setCell];omega)))
 ·refine (InssAt.keepS HJ.out (?_:Same _ _ w2 _)).mono (by omega) (by simp only [size_setCell];omega)
  repeat (refine Same.setCell ?_ (Or.inl (by dsimp only;omega)) _)
  exact ((Same.refl _ _ _).setCell (Or.inl (by dsimp only;omega)) _).trans (Same.of_below (hb3.mono (by simp only [size_setCell];omega)))
 ·repeat (refine Thaw.setCell ?_ _ _)
  exact HT3.out
theorem Tryz.infoBlock:(Tryz.prog.info? 57).map (fun i=>(i.zero,i.size,i.bytes))=some (some (.agg #[.slice none 0 0,.slice none 0 0,.int .i64 0,.int .i64 0,.int .i64 0,.int .i64 0]),6,80):=by kernel_rfl
set_option maxHeartbeats 1000000 in
theorem toBlocks_any (a:Option Addr) (n c:Nat) (xs:List Blk) (L B:Nat) (w:World) (ha:Hid (BlksAt w L B a xs)) (hx:Hid (n=xs.length)) (hs:Hid (BlkLen xs)) (hn:n≤1048576) (hB:B≤w.heap.size) :
  Calls Tryz.prog 24 #[.slice a n c] w fun e w'=>∃c',e=.returned (.slice (some ⟨w.heap.size,0,none⟩) n c')∧Below w.heap.size w w'∧BlksAt w' w.heap.size w'.heap.size (some ⟨w.heap.size,0,none⟩) xs∧Thaw w.heap.size w':=by
 have hmk:=run_make_rows (P:=Tryz.prog) 30 57 _ 6 80 Tryz.underlying30 Tryz.infoBlock n (by omega) (by omega)
 go_enter Tryz.func24,Tryz.ntmps24
 go_wp2
 go_loopw [4] (fun i wr=>∃k:Nat,k≤n∧i=.int .i64 k∧Below w.heap.size w wr∧w.heap.size<wr.heap.size∧Hid (Thaw w.heap.size wr)∧Hid (∃f,wr.rowIs w.heap.size 57 (n*6) f)∧Hid (∀j (h:j<xs.length),j<k→BlkAt wr (w.heap.size+1) wr.heap.size w.heap.size (j*6) xs[j])) (fun i _=>n-(intOf i).toNat)
 case atStart=>exact ⟨0,Nat.zero_le _,rfl,balloc (Below.refl _ _) _,by simp,(Thaw.start _).alloc _ _,⟨_,rowIs_born _ _ _ _⟩,fun j _ h=>absurd h (by omega)⟩
 case round =>
  obtain ⟨k,hk,rfl,hw,hsz,hth,hf,hg⟩:=hrel
  by_cases hlt:k<n
  ·have hkx:k<xs.length:=by have:=hx.out;omega
   obtain ⟨b,o,rfl,⟨_,hbB⟩,hc⟩:=ha.out k hkx
   obtain ⟨pa,pc,ia,ic,e0,e1,⟨e2,e3,e4,e5⟩,hp,hi⟩:=hc.keep (hw.mono hB) (by omega)
   have HP:=hide hp
   have HI:=hide hi
   obtain ⟨hq1,hq2,hq3⟩:=hs.out _ (List.getElem_mem hkx)
   have HQ:=hide hq3
   have hBr:B≤wr.heap.size:=by have:=hw.size;omega
   obtain ⟨f,hr⟩:=hf.out
   have HR:=hide hr
   clear hc hf hr hi hp hq3
   generalize hX:xs[k]=X at *
   have HX:=hide hX
   clear hX
   go_wp2_with (go_at_call 51;refine (toBlock_any _ _ _ _ _ _ _ _ _ _ X.phis X.instrs L B _ HP HI rfl rfl HQ hq1 hq2 hBr).mono ?_;rintro e w1 ⟨p1,c1,i1,d1,rfl,hb1,hp1,hi1,ht1⟩;have HT1:=hide ht1;clear ht1;have hr1:=HR.out.of_block (hb1.block _ HR.out.lt);have g0:=hr1.cell (i:=k*6) (by omega);have g1:=hr1.cell (i:=k*6+1) (by omega);have g2:=hr1.cell (i:=k*6+2) (by omega);have g3:=hr1.cell (i:=k*6+3) (by omega);have g4:=hr1.cell (i:=k*6+4) (by omega);have g5:=hr1.cell (i:=k*6+5) (by omega);have z0:=hr1.frozen (k*6);have z1:=hr1.frozen (k*6+1);have z2:=hr1.frozen (k*6+2);have z3:=hr1.frozen (k*6+3);have z4:=hr1.frozen (k*6+4);have z5:=hr1.frozen (k*6+5);have HR1:=hide hr1;clear hr1;have HI1:=hide hi1;clear hi1;have HP1:=hide hp1;clear hp1)
   have hX:=unhide HX
   subst hX
   have hz1:=hb1.size
   have h1:∀j (h:j<xs.length),j<k→BlkAt w1 (w.heap.size+1) w1.heap.size w.heap.size (j*6) xs[j]:=fun j h hj=>((hg.out j h hj).keepS (Same.of_below hb1) (hb1.block _ HR.out.lt)).mono (Nat.le_refl _) hz1
   have h2:=blk_step HR1.out (Nat.lt_succ_self _) xs k hkx (by have:=hx.out;omega) h1 p1 i1 c1 d1 (HP1.out.mono (by omega) (Nat.le_refl _)) (HI1.out.mono (by omega) (Nat.le_refl _))
   have h3:=size_setCells w.heap.size [.slice p1 xs[k].phis.length c1,.slice i1 xs[k].instrs.length d1,.int .i64 xs[k].term.kind,.int .i64 xs[k].term.a,.int .i64 xs[k].term.to,.int .i64 xs[k].term.els] (k*6) w1
   have h4:=rowIs_setCells [.slice p1 xs[k].phis.length c1,.slice i1 xs[k].instrs.length d1,.int .i64 xs[k].term.kind,.int .i64 xs[k].term.a,.int .i64 xs[k].term.to,.int .i64 xs[k].term.els] (k*6) _ _ HR1.out
   have h5:=below_setCells _ [.slice p1 xs[k].phis.length c1,.slice i1 xs[k].instrs.length d1,.int .i64 xs[k].term.kind,.int .i64 xs[k].term.a,.int .i64 xs[k].term.to,.int .i64 xs[k].term.els] (k*6) _ _ (bnext hw hb1) (Nat.le_refl _)
   exact ⟨⟨k+1,by omega,by go_num,h5,by simp only [size_setCell];omega,((((((hth.out.trans hb1 HT1.out).setCell _ _).setCell _ _).setCell _ _).setCell _ _).setCell _ _).setCell _ _,h4,fun j h hj=>(h2 j h hj).mono (Nat.le_refl _) (Nat.le_of_eq h3.symm)⟩,by simp [intOf];omega⟩
  ·go_wp2
   go_ret
   obtain ⟨f,hr⟩:=hf.out
   refine ⟨_,rfl,hw,fun j hj=>⟨w.heap.size,0,rfl,⟨Nat.le_refl _,hr.lt⟩,?_⟩,hth.out⟩
   rw [Nat.zero_add]
   exact (hg.out j hj (by have:=hx.out;omega)).mono (by omega) (Nat.le_refl _)
set_option maxHeartbeats 400000 in
theorem toFunc_any (v:Int) (a:Option Addr) (n c:Nat) (xs:List Blk) (L B:Nat) (w:World) (ha:Hid (BlksAt w L B a xs)) (hx:Hid (n=xs.length)) (hs:Hid (BlkLen xs)) (hn:n≤1048576) (hB:B≤w.heap.size) :
  Calls Tryz.prog 7 #[.agg #[.int .i64 v,.slice a n c]] w fun e w'=>∃a' c',e=.returned (.agg #[.int .i64 v,.slice a' n c'])∧Below w.heap.size w w'∧BlksAt w' w.heap.size w'.heap.size a' xs∧Thaw w.heap.size w':=by
 go_enter Tryz.func7,Tryz.ntmps7
 go_wp2_with fail
 refine (toBlocks_any _ _ _ xs L B _ ?q1 hx hs hn ?q2).mono ?_
 case q1=>exact ha.out.keep ((((Below.refl _ _).alloc (by omega) _).alloc (by simp;omega) _).alloc (by simp;omega) _)
 case q2=>simp;omega
 rintro e w1 ⟨c',rfl,hb1,hi1,ht1⟩
 have HT1:=hide (((((Thaw.start w).alloc _ _).alloc _ _).alloc _ _).trans hb1 ht1)
 clear ht1
 have b1:=bnext (balloc (balloc (balloc (Below.refl w.heap.size w) _) _) _) hb1
 have hz1:=hb1.size
 simp at hz1
 have hz2:w.heap.size<w1.heap.size:=by omega
 have hz3:w.heap.size+1<w1.heap.size:=by omega
 have hz4:w.heap.size+1+1<w1.heap.size:=by omega
 obtain ⟨hc1,hf1⟩:=bcell hb1
 have HI:=hide hi1
 clear hi1
 go_wp2
 refine bodyPost_ret (v:=.agg #[.int .i64 v,.slice (some ⟨w.heap.size+1+1+1,0,none⟩) n c']) (by simp [results,Tryz.results7,go_sem,hc1]) rfl ⟨_,_,rfl,?_,?_,((HT1.out.setCell _ _).setCell _ _).setCell _ _⟩
 ·exact ((b1.setCell (by simp;omega) _).setCell (by simp) _).setCell (by simp) _
 ·have h:=HI.out
  simp only [World.size_alloc] at h
  exact (h.keepS ((((Same.refl _ _ _).setCell (Or.inl (by simp)) _).setCell (Or.inl (by simp)) _).setCell (Or.inl (by simp)) _)).mono (by omega) (by simp only [size_setCell];omega)
end Go.Proofs.YthgikffcdgpgiaaGreatDoor
