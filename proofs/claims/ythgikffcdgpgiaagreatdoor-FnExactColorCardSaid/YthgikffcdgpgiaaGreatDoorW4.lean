import Derived.Test.YthgikffcdgpgiaaGreatDoorMark
namespace Go.Proofs.YthgikffcdgpgiaaGreatDoor
set_option maxHeartbeats 4000000
set_option maxRecDepth 100000
open Go.RowKit
theorem Zec(d:Int)(a:Option Addr)(n c:Nat)(xs:List Int)(L B:Nat)(w:World)(ha:Hid (Xg w L B a xs))(hx:Hid (n=xs.length))(hn:n<=1048576)(hB:B<=w.heap.size) :
 Calls Tryz.prog 119 #[.agg #[.int .i64 d,.slice a n c]] w fun e w'=>∃a' c',e=.returned (.agg #[.int .i64 d,.slice a' n c'])/\Below w.heap.size w w'/\Xg w' w.heap.size w'.heap.size a' xs/\Ym w.heap.size w':=by
 go_enter Tryz.func119,Tryz.ntmps119
 go_wp2_with fail
 refine(Zch _ _ _ xs L B _ ?q1 hx hn ?q2).mono ?_
 case q1=>exact ha.keep ((((Below.refl _ _).alloc oM _).alloc (by simp;omega) _).alloc (by simp;omega) _)
 case q2=>simp;omega
 rintro e w1 ⟨c',rfl,hb1,hi1,ht1⟩;have HT1:=Xa (((((Ym.start w).alloc _ _).alloc _ _).alloc _ _).trans hb1 ht1);clear ht1;have b1:=Xe (Xb (Xb (Xb (Below.refl w.heap.size w) _) _) _) hb1;have hz1:=hb1.size;simp at hz1;have hz2:w.heap.size<w1.heap.size:=oM;have hz3:w.heap.size+1<w1.heap.size:=oM;have hz4:w.heap.size+1+1<w1.heap.size:=oM;obtain⟨hc1,hf1⟩:=bcell hb1;have HI:=Xa hi1;clear hi1;go_wp2;refine bodyPost_ret (v:=.agg #[.int .i64 d,.slice (some ⟨w.heap.size+1+1+1,0,none⟩) n c']) (by simp[results,Tryz.results119,go_sem,hc1]) rfl ⟨_,_,rfl,?_,?_,((HT1.setCell _ _).setCell _ _).setCell _ _⟩
 ·exact((b1.setCell (by simp;omega) _).setCell sP _).setCell sP _
 ·have h:=HI.out
  simp only[World.size_alloc]at h;exact(h.keepS ((((Xu.refl _ _ _).setCell (Or.inl sP) _).setCell (Or.inl sP) _).setCell (Or.inl sP) _)).mono oM (by simp only[Xd];omega)
theorem Tryz.infoPhi:(Tryz.prog.info? 64).map (fun i=>(i.zero,i.size,i.bytes))=some (some (.agg #[.int .i64 0,.slice none 0 0]),2,32):=kR
theorem Zcd(a:Option Addr)(n c:Nat)(xs:List Ph)(L B:Nat)(w:World)(ha:Hid (XZ w L B a xs))(hx:Hid (n=xs.length))(hs:Hid (Zb6 xs))(hn:n<=1048576)(hB:B<=w.heap.size) :
 Calls Tryz.prog 83 #[.slice a n c] w fun e w'=>∃c',e=.returned (.slice (some ⟨w.heap.size,0,none⟩) n c')/\Below w.heap.size w w'/\XZ w' w.heap.size w'.heap.size (some ⟨w.heap.size,0,none⟩) xs/\Ym w.heap.size w':=by
 have hmk:=ZN (P:=Tryz.prog) 52 64 _ 2 32 Tryz.underlying52 Tryz.infoPhi n oM oM
 go_enter Tryz.func83,Tryz.ntmps83
 go_wp2
 go_loopw [4] (fun i wr=>∃k:Nat,k<=n/\i=.int .i64 k/\Below w.heap.size w wr/\w.heap.size<wr.heap.size/\Hid (Ym w.heap.size wr)/\Hid (∃f,wr.rowIs w.heap.size 64 (n*2) f)/\Hid (∀j (h:j<xs.length),j<k->ZG wr (w.heap.size+1) wr.heap.size w.heap.size (j*2) xs[j])) (fun i _=>n-(intOf i).toNat)
 case atStart=>exact⟨0,Nat.zero_le _,rfl,Xb (Below.refl _ _) _,sP,(Ym.start _).alloc _ _,⟨_,KE _ _ _ _⟩,fun j _ h=>absurd h oM⟩
 case round =>
  obtain⟨k,hk,rfl,hw,hsz,hth,hf,hg⟩:=hrel;by_cases hlt:k<n
  ·have hkx:k<xs.length:=by have:=hx.out;omega
   obtain⟨b,o,rfl,⟨_,hbB⟩,hc⟩:=ha.out k hkx;obtain⟨aa,cc,e0,e1,hi⟩:=hc.keep (hw.mono hB) oM;have HI:=Xa hi;have hq:=hs.out _ (List.getElem_mem hkx);have hBr:B<=wr.heap.size:=by have:=hw.size;omega
   obtain⟨f,hr⟩:=hf.out;have HR:=Xa hr;clear hc hf hr hi;generalize hX:xs[k]=X at *;have HX:=Xa hX;clear hX
   go_wp2_with (go_at_call 119;refine(Zec _ _ _ _ X.args L B _ HI rfl hq hBr).mono ?_;rintro e w1 ⟨a1,c1,rfl,hb1,hi1,ht1⟩;have HT1:=Xa ht1;clear ht1;have hr1:=HR.of_block (hb1.block _ HR.lt);have g0:=hr1.cell (i:=k*2) oM;have g1:=hr1.cell (i:=k*2+1) oM;have z0:=hr1.frozen (k*2);have z1:=hr1.frozen (k*2+1);have HR1:=Xa hr1;clear hr1;have HI1:=Xa hi1;clear hi1)
   have hX:=Xq HX;subst hX;have hz1:=hb1.size;have h1:∀j (h:j<xs.length),j<k->ZG w1 (w.heap.size+1) w1.heap.size w.heap.size (j*2) xs[j]:=fun j h hj=>((hg.out j h hj).keepS (Xu.of_below hb1) (hb1.block _ HR.lt)).mono (Nat.le_refl _) hz1
   have h2:=ZgG HR1.out (Nat.lt_succ_self _) xs k hkx (by have:=hx.out;omega) h1 a1 c1 (HI1.mono oM (Nat.le_refl _));have h3:=ZP w.heap.size [.int .i64 xs[k].dst,.slice a1 xs[k].args.length c1] (k*2) w1;exact⟨⟨k+1,oM,gM,Zf _ [.int .i64 xs[k].dst,.slice a1 xs[k].args.length c1] (k*2) _ _ (Xe hw hb1) (Nat.le_refl _),by simp only[Xd];omega,((hth.trans hb1 HT1.out).setCell _ _).setCell _ _,Zb [.int .i64 xs[k].dst,.slice a1 xs[k].args.length c1] (k*2) _ _ HR1.out,fun j h hj=>(h2 j h hj).mono (Nat.le_refl _) (Nat.le_of_eq h3.symm)⟩,by simp[intOf];omega⟩
  ·go_wp2
   go_ret
   obtain⟨f,hr⟩:=hf.out;refine⟨_,rfl,hw,fun j hj=>⟨w.heap.size,0,rfl,⟨Nat.le_refl _,hr.lt⟩,?_⟩,hth.out⟩;rw[Nat.zero_add];exact(hg.out j hj (by have:=hx.out;omega)).mono oM (Nat.le_refl _)
theorem ZbB(p i:Option Addr)(n pc m ic:Nat)(t0 t1 t2 t3:Int)(xs:List Ph)(ys:List YK)(L B:Nat)(w:World)(ha:Hid (XZ w L B p xs))(hb:Hid (XL w L B i ys))(hx:Hid (n=xs.length))(hy:Hid (m=ys.length))(hs:Hid (Zb6 xs))(hn:n<=1048576)(hm:m<=1048576)(hB:B<=w.heap.size) :
 Calls Tryz.prog 51 #[.agg #[.slice p n pc,.slice i m ic,.int .i64 t0,.int .i64 t1,.int .i64 t2,.int .i64 t3]] w fun e w'=>∃p' c' i' d',e=.returned (.agg #[.slice p' n c',.slice i' m d',.int .i64 t0,.int .i64 t1,.int .i64 t2,.int .i64 t3])/\Below w.heap.size w w' /\
  XZ w' w.heap.size w'.heap.size p' xs/\XL w' w.heap.size w'.heap.size i' ys/\Ym w.heap.size w':=by
 go_enter Tryz.func51,Tryz.ntmps51
 go_wp2_with fail
 refine(Zcd _ _ _ xs L B _ ?q1 hx hs hn ?q2).mono ?_
 case q1=>exact ha.keep ((((Below.refl _ _).alloc oM _).alloc (by simp;omega) _).alloc (by simp;omega) _)
 case q2=>simp;omega
 rintro e w1 ⟨c',rfl,hb1,hi1,ht1⟩;have HT1:=Xa (((((Ym.start w).alloc _ _).alloc _ _).alloc _ _).trans hb1 ht1);clear ht1;have b1:=Xe (Xb (Xb (Xb (Below.refl w.heap.size w) _) _) _) hb1;have hz1:=hb1.size;simp at hz1;have hz2:w.heap.size<w1.heap.size:=oM;have hz3:w.heap.size+1<w1.heap.size:=oM;have hz4:w.heap.size+1+1<w1.heap.size:=oM;obtain⟨hc1,hf1⟩:=bcell hb1;have HI:=Xa hi1;clear hi1
 go_wp2_with fail
 refine(Zar _ _ _ ys L B _ ?q3 hy hm ?q4).mono ?_
 case q3=>exact hb.keep ((b1.setCell (by simp;omega) _).mono hB)
 case q4=>simp only[Xd];omega
 rintro e w2 ⟨d',rfl,hb2,hj1,ht2⟩;have HT2:=Xa ((HT1.setCell _ _).trans hb2 ht2);clear ht2;have hz5:=hb2.size;simp only[Xd]at hz5;have hz6:w.heap.size<w2.heap.size:=oM;have hz7:w.heap.size+1<w2.heap.size:=oM;have hz8:w.heap.size+1+1<w2.heap.size:=oM;obtain⟨hc2,hf2⟩:=bcell hb2;simp only[Xd]at hc2 hf2 hj1;have HJ:=Xa hj1;clear hj1;have S2:Xu (w.heap.size+1+1+1) w1.heap.size w1 w2:=((Xu.refl _ _ _).setCell (Or.inl sP) _).trans (Xu.of_below (hb2.mono (by simp only[Xd];omega)));have B2:=Xa (Xe (b1.setCell (p:=⟨w.heap.size+1+1,0,none⟩) (by simp;omega) _) hb2);have HS2:=Xa S2;clear S2
 go_wp2_with fail
 refine(ZcH _ _ _ _ _).mono ?_;rintro e w3 ⟨rfl,hb3,ht3⟩;have HT3:=Xa ((HT2.setCell _ _).trans hb3 ht3);clear ht3;have hz9:=hb3.size;simp only[Xd]at hz9;obtain⟨hc3,hf3⟩:=bcell hb3;simp only[Xd]at hc3 hf3;go_wp2;refine bodyPost_ret (v:=.agg #[.slice (some ⟨w.heap.size+1+1+1,0,none⟩) n c',.slice (some ⟨w1.heap.size,0,none⟩) m d',.int .i64 t0,.int .i64 t1,.int .i64 t2,.int .i64 t3]) (by simp[results,Tryz.results51,go_sem,hc1,hc2,hc3,hz3,hz7]) rfl ⟨_,_,_,_,rfl,?_,?_,?_,?_⟩
 ·repeat (refine Below.setCell ?_ (by dsimp only;omega) _)
  exact Xe (B2.setCell (p:=⟨w.heap.size+1+1,1,none⟩) (by dsimp only;omega) _) hb3
 ·have h:=HI.out
  simp only[World.size_alloc]at h;refine(XZ.keepS h (?_:Xu _ _ w1 _)).mono oM (by simp only[Xd];omega)
  repeat (refine Xu.setCell ?_ (Or.inl (by dsimp only;omega)) _)
  exact(HS2.setCell (Or.inl (by dsimp only;omega)) _).trans (Xu.of_below (hb3.mono (by simp only[Xd];omega)))
 ·refine(XL.keepS HJ.out (?_:Xu _ _ w2 _)).mono oM (by simp only[Xd];omega)
  repeat (refine Xu.setCell ?_ (Or.inl (by dsimp only;omega)) _)
  exact((Xu.refl _ _ _).setCell (Or.inl (by dsimp only;omega)) _).trans (Xu.of_below (hb3.mono (by simp only[Xd];omega)))
 ·repeat (refine Ym.setCell ?_ _ _)
  exact HT3.out
theorem Tryz.infoBlock:(Tryz.prog.info? 57).map (fun i=>(i.zero,i.size,i.bytes))=some (some (.agg #[.slice none 0 0,.slice none 0 0,.int .i64 0,.int .i64 0,.int .i64 0,.int .i64 0]),6,80):=kR
theorem WY(a:Option Addr)(n c:Nat)(xs:List Xi)(L B:Nat)(w:World)(ha:Hid (Xl w L B a xs))(hx:Hid (n=xs.length))(hs:Hid (KD xs))(hn:n<=1048576)(hB:B<=w.heap.size) :
 Calls Tryz.prog 24 #[.slice a n c] w fun e w'=>∃c',e=.returned (.slice (some ⟨w.heap.size,0,none⟩) n c')/\Below w.heap.size w w'/\Xl w' w.heap.size w'.heap.size (some ⟨w.heap.size,0,none⟩) xs/\Ym w.heap.size w':=by
 have hmk:=ZN (P:=Tryz.prog) 30 57 _ 6 80 Tryz.underlying30 Tryz.infoBlock n oM oM
 go_enter Tryz.func24,Tryz.ntmps24
 go_wp2
 go_loopw [4] (fun i wr=>∃k:Nat,k<=n/\i=.int .i64 k/\Below w.heap.size w wr/\w.heap.size<wr.heap.size/\Hid (Ym w.heap.size wr)/\Hid (∃f,wr.rowIs w.heap.size 57 (n*6) f)/\Hid (∀j (h:j<xs.length),j<k->Y8 wr (w.heap.size+1) wr.heap.size w.heap.size (j*6) xs[j])) (fun i _=>n-(intOf i).toNat)
 case atStart=>exact⟨0,Nat.zero_le _,rfl,Xb (Below.refl _ _) _,sP,(Ym.start _).alloc _ _,⟨_,KE _ _ _ _⟩,fun j _ h=>absurd h oM⟩
 case round =>
  obtain⟨k,hk,rfl,hw,hsz,hth,hf,hg⟩:=hrel;by_cases hlt:k<n
  ·have hkx:k<xs.length:=by have:=hx.out;omega
   obtain⟨b,o,rfl,⟨_,hbB⟩,hc⟩:=ha.out k hkx;obtain⟨pa,pc,ia,ic,e0,e1,⟨e2,e3,e4,e5⟩,hp,hi⟩:=hc.keep (hw.mono hB) oM;have HP:=Xa hp;have HI:=Xa hi;obtain⟨hq1,hq2,hq3⟩:=hs.out _ (List.getElem_mem hkx);have HQ:=Xa hq3;have hBr:B<=wr.heap.size:=by have:=hw.size;omega
   obtain⟨f,hr⟩:=hf.out;have HR:=Xa hr;clear hc hf hr hi hp hq3;generalize hX:xs[k]=X at *;have HX:=Xa hX;clear hX
   go_wp2_with (go_at_call 51;refine(ZbB _ _ _ _ _ _ _ _ _ _ X.phis X.instrs L B _ HP HI rfl rfl HQ hq1 hq2 hBr).mono ?_;rintro e w1 ⟨p1,c1,i1,d1,rfl,hb1,hp1,hi1,ht1⟩;have HT1:=Xa ht1;clear ht1;have hr1:=HR.of_block (hb1.block _ HR.lt);have g0:=hr1.cell (i:=k*6) oM;have g1:=hr1.cell (i:=k*6+1) oM;have g2:=hr1.cell (i:=k*6+2) oM;have g3:=hr1.cell (i:=k*6+3) oM;have g4:=hr1.cell (i:=k*6+4) oM;have g5:=hr1.cell (i:=k*6+5) oM;have z0:=hr1.frozen (k*6);have z1:=hr1.frozen (k*6+1);have z2:=hr1.frozen (k*6+2);have z3:=hr1.frozen (k*6+3);have z4:=hr1.frozen (k*6+4);have z5:=hr1.frozen (k*6+5);have HR1:=Xa hr1;clear hr1;have HI1:=Xa hi1;clear hi1;have HP1:=Xa hp1;clear hp1)
   have hX:=Xq HX;subst hX;have hz1:=hb1.size;have h1:∀j (h:j<xs.length),j<k->Y8 w1 (w.heap.size+1) w1.heap.size w.heap.size (j*6) xs[j]:=fun j h hj=>((hg.out j h hj).keepS (Xu.of_below hb1) (hb1.block _ HR.lt)).mono (Nat.le_refl _) hz1
   have h2:=Zfk HR1.out (Nat.lt_succ_self _) xs k hkx (by have:=hx.out;omega) h1 p1 i1 c1 d1 (HP1.mono oM (Nat.le_refl _)) (HI1.mono oM (Nat.le_refl _));have h3:=ZP w.heap.size [.slice p1 xs[k].phis.length c1,.slice i1 xs[k].instrs.length d1,.int .i64 xs[k].term.kind,.int .i64 xs[k].term.a,.int .i64 xs[k].term.to,.int .i64 xs[k].term.els] (k*6) w1;have h4:=Zb [.slice p1 xs[k].phis.length c1,.slice i1 xs[k].instrs.length d1,.int .i64 xs[k].term.kind,.int .i64 xs[k].term.a,.int .i64 xs[k].term.to,.int .i64 xs[k].term.els] (k*6) _ _ HR1.out;have h5:=Zf _ [.slice p1 xs[k].phis.length c1,.slice i1 xs[k].instrs.length d1,.int .i64 xs[k].term.kind,.int .i64 xs[k].term.a,.int .i64 xs[k].term.to,.int .i64 xs[k].term.els] (k*6) _ _ (Xe hw hb1) (Nat.le_refl _);exact⟨⟨k+1,oM,gM,h5,by simp only[Xd];omega,((((((hth.trans hb1 HT1.out).setCell _ _).setCell _ _).setCell _ _).setCell _ _).setCell _ _).setCell _ _,h4,fun j h hj=>(h2 j h hj).mono (Nat.le_refl _) (Nat.le_of_eq h3.symm)⟩,by simp[intOf];omega⟩
  ·go_wp2
   go_ret
   obtain⟨f,hr⟩:=hf.out;refine⟨_,rfl,hw,fun j hj=>⟨w.heap.size,0,rfl,⟨Nat.le_refl _,hr.lt⟩,?_⟩,hth.out⟩;rw[Nat.zero_add];exact(hg.out j hj (by have:=hx.out;omega)).mono oM (Nat.le_refl _)
theorem Jv(v:Int)(a:Option Addr)(n c:Nat)(xs:List Xi)(L B:Nat)(w:World)(ha:Hid (Xl w L B a xs))(hx:Hid (n=xs.length))(hs:Hid (KD xs))(hn:n<=1048576)(hB:B<=w.heap.size) :
 Calls Tryz.prog 7 #[.agg #[.int .i64 v,.slice a n c]] w fun e w'=>∃a' c',e=.returned (.agg #[.int .i64 v,.slice a' n c'])/\Below w.heap.size w w'/\Xl w' w.heap.size w'.heap.size a' xs/\Ym w.heap.size w':=by
 go_enter Tryz.func7,Tryz.ntmps7
 go_wp2_with fail
 refine(WY _ _ _ xs L B _ ?q1 hx hs hn ?q2).mono ?_
 case q1=>exact ha.keep ((((Below.refl _ _).alloc oM _).alloc (by simp;omega) _).alloc (by simp;omega) _)
 case q2=>simp;omega
 rintro e w1 ⟨c',rfl,hb1,hi1,ht1⟩;have HT1:=Xa (((((Ym.start w).alloc _ _).alloc _ _).alloc _ _).trans hb1 ht1);clear ht1;have b1:=Xe (Xb (Xb (Xb (Below.refl w.heap.size w) _) _) _) hb1;have hz1:=hb1.size;simp at hz1;have hz2:w.heap.size<w1.heap.size:=oM;have hz3:w.heap.size+1<w1.heap.size:=oM;have hz4:w.heap.size+1+1<w1.heap.size:=oM;obtain⟨hc1,hf1⟩:=bcell hb1;have HI:=Xa hi1;clear hi1;go_wp2;refine bodyPost_ret (v:=.agg #[.int .i64 v,.slice (some ⟨w.heap.size+1+1+1,0,none⟩) n c']) (by simp[results,Tryz.results7,go_sem,hc1]) rfl ⟨_,_,rfl,?_,?_,((HT1.setCell _ _).setCell _ _).setCell _ _⟩
 ·exact((b1.setCell (by simp;omega) _).setCell sP _).setCell sP _
 ·have h:=HI.out
  simp only[World.size_alloc]at h;exact(h.keepS ((((Xu.refl _ _ _).setCell (Or.inl sP) _).setCell (Or.inl sP) _).setCell (Or.inl sP) _)).mono oM (by simp only[Xd];omega)
section
attribute [local go_sem ↓] Go.wp_at_zero Go.wp_at_succ
theorem ZbS(ps:List Ph):phCnt (ps.map fun p=>p.args.length)=ps.length+XR ps:=by
 induction ps with
 | nil=>rfl
 | cons p ps ih =>
  have h1:phCnt ((p::ps).map fun p=>p.args.length)=(p.args.length+1)+phCnt (ps.map fun p=>p.args.length):=by simp[phCnt]
  have h2:XR (p::ps)=p.args.length+XR ps:=by simp[XR]
  rw[h1,h2,ih,List.length_cons];omega
theorem Zcn(xs:List Xi):shsCnt (xs.map Xi.sh)<=5*(xs.length+Xk xs):=by
 induction xs with
 | nil=>simp[shsCnt]
 | cons x xs ih =>
  have h1:shsCnt ((x::xs).map Xi.sh)=UW x.sh+shsCnt (xs.map Xi.sh):=by simp[shsCnt]
  have h2:Xk (x::xs)=Zl x+Xk xs:=by simp[Xk]
  have h3:UW x.sh=phCnt (x.phis.map fun p=>p.args.length)+5*x.instrs.length+4:=rfl;rw[h1,h2,h3,ZbS,List.length_cons];simp only[Zl];omega
theorem Zfl(v:Int)(a:Option Addr)(n c:Nat)(xs:List Xi)(w:World)(ha:Hid (Xl w 0 w.heap.size a xs))(hx:Hid (n=xs.length))(hn:n<=9223372036854775807)(hs:Hid (ZfY xs))(hO:Hid (Yf w))(hT:Hid (XT w))(hZ:Hid (Zs w)) :
 Calls Tryz.prog 3 #[.agg #[.int .i64 v,.slice a n c]] w fun e w'=>e=.returned (.bool true)/\Below w.heap.size w w':=by
 by_cases hbig:(1048576:Int)<(n+Xk xs:Nat)
 ·have hz:=Yx hbig
  go_enter Tryz.func3,Tryz.ntmps3
  go_wp2_with (go_at_call 5;refine(Uy _ _ _ _ _ xs 0 w.heap.size _ (ha.keep (Xb (Below.refl _ _) _)) hx hn hs oM oM sP).mono ?_;rintro e w1 ⟨rfl,hb1⟩)
  go_ret
  exact⟨rfl,Xe (Xb (Below.refl _ _) _) hb1⟩
 ·have hz:szR 1048576 (n+Xk xs)=1048576-(n+Xk xs:Nat):=YQ oM
  have hnn:n<=1048576:=oM;have htot:Hid (xs.length+Xk xs<=1048576):=by have:=hx.out;show _<=_;omega
  have hlen:=Xa (KP htot.out);have hnon:(0:Int)<=1048576-(n+Xk xs:Nat):=oM;generalize hN:n+Xk xs=N at *;have HN:=Xa hN;clear hN hbig;obtain⟨cd,hcd⟩:∃cd,cd=verdP v xs:=⟨_,rfl⟩;obtain⟨ct,hct⟩:∃ct,ct=ZcF v xs:=⟨_,rfl⟩;obtain⟨lst,hlst⟩:∃l,l=Zcj v xs:=⟨_,rfl⟩;have HSA:=Xa (fun a' c' L B W h1 h2=>ZcD v a' n c' xs L B W h1 hx.out htot.out h2);have HIA:=Xa (fun a' c' L B W h1 h2 h3 h4 h5=>ZcI v a' n c' xs L B W h1 hx.out htot.out h2 h3 h4 h5);rw[<-hcd,<-hct,<-hlst]at HSA HIA;clear hcd hct hlst
  go_enter Tryz.func3,Tryz.ntmps3
  go_wp2_with fail
  refine(Uy _ _ _ _ _ xs 0 w.heap.size _ ?q1 hx hn hs oM oM sP).mono ?_
  case q1=>exact ha.keep (Xb (Below.refl _ _) _)
  rintro e w1 ⟨rfl,hb1⟩;rw[Xq HN,hz];obtain⟨hc1,hf1⟩:=bcell hb1;have k0:w1.cell? ⟨w.heap.size,0,none⟩=some (.int .i64 v):=by rw[hc1 _ _ sP];simp
  have k1:w1.cell? ⟨w.heap.size,1,none⟩=some (.slice a n c):=by rw[hc1 _ _ sP];simp
  have B1:=Xe (Xb (Below.refl w.heap.size w) _) hb1;have hz1:=hb1.size;simp at hz1;have HA:=Xa (ha.keep B1);have HB1:=Xa B1;clear hc1 hf1 hb1 B1 hz
  go_wp2_with fail
  refine(Jv v a n c xs 0 w.heap.size _ HA hx hlen hnn oM).mono ?_;rintro e w2 ⟨a2,c2,rfl,hb2,hi2,_⟩;have HI2:=Xa hi2;have k0':=(XD hb2 oM).trans k0;have k1':=(XD hb2 oM).trans k1;have hz2:=hb2.size;have HB2:=Xa (Xe HB1.out hb2);clear hi2 hb2 k0 k1 HA
  go_wp2_with fail
  refine(HSA.out a2 c2 w1.heap.size w2.heap.size _ HI2.out (Nat.le_refl _)).mono ?_;rintro e w3 ⟨G0,rfl,hb3,hf3⟩;obtain⟨r1,m1,s1,rfl⟩:=hf3.form;have HF3:=Xa hf3;have q0:=(XD hb3 oM).trans k0';have q1:=(XD hb3 oM).trans k1';have hz3:=hb3.size;have HB3:=Xa (Xe HB2.out hb3);have hl3:w.heap.size<w3.heap.size:=oM;clear hb3 k0' k1' hf3 HI2;have HB3b:=Xa (Xb HB3.out (.cells #[.int .i64 cd,.slice r1 m1 s1,.int .i64 ct] 28));have HF3b:=Xa (HF3.keepS (Xu.of_below (Xb (Below.refl w3.heap.size w3) (.cells #[.int .i64 cd,.slice r1 m1 s1,.int .i64 ct] 28))));have HX3:Hid ((w3.alloc (.cells #[.int .i64 cd,.slice r1 m1 s1,.int .i64 ct] 28)).cell? ⟨w3.heap.size,0,none⟩=some (.int .i64 cd)/\(w3.alloc (.cells #[.int .i64 cd,.slice r1 m1 s1,.int .i64 ct] 28)).cell? ⟨w3.heap.size,1,none⟩=some (.slice r1 m1 s1)/\(w3.alloc (.cells #[.int .i64 cd,.slice r1 m1 s1,.int .i64 ct] 28)).cell? ⟨w3.heap.size,2,none⟩=some (.int .i64 ct)):=Xa (by simp[go_sem]);have HQ3:Hid (∀o,(w3.alloc o).cell? ⟨w.heap.size,0,none⟩=some (.int .i64 v)/\(w3.alloc o).cell? ⟨w.heap.size,1,none⟩=some (.slice a n c)):=Xa (fun o=>⟨(World.cell?_alloc_lt w3 o ⟨w.heap.size,0,none⟩ hl3).trans q0,(World.cell?_alloc_lt w3 o ⟨w.heap.size,1,none⟩ hl3).trans q1⟩);have hz3b:(w3.alloc (.cells #[.int .i64 cd,.slice r1 m1 s1,.int .i64 ct] 28)).heap.size=w3.heap.size+1:=sP
  go_wp2_with fail
  have HC3:=Xa (HQ3.out (.cells #[.int .i64 cd,.slice r1 m1 s1,.int .i64 ct] 28));generalize w3.alloc (.cells #[.int .i64 cd,.slice r1 m1 s1,.int .i64 ct] 28)=wb at *;have hzb:w3.heap.size+1<=wb.heap.size:=oM;have HZB:=Xa hz3b;clear hz3b q0 q1 HQ3 HF3;refine(Jv v a n c xs 0 w.heap.size _ (ha.keep HB3b.out) hx hlen hnn oM).mono ?_;rintro e w4 ⟨a4,c4,rfl,hb4,hi4,ht4⟩;have HI4:=Xa hi4;have HT4:=Xa ht4;have HC4:Hid (w4.cell? ⟨w.heap.size,0,none⟩=some (.int .i64 v)/\w4.cell? ⟨w.heap.size,1,none⟩=some (.slice a n c)):=Xa ⟨(hb4.cell (p:=⟨w.heap.size,0,none⟩) (by show w.heap.size<_;omega)).trans HC3.1,(hb4.cell (p:=⟨w.heap.size,1,none⟩) (by show w.heap.size<_;omega)).trans HC3.2⟩;have HX4:Hid (w4.heap[w3.heap.size]?=wb.heap[w3.heap.size]?):=Xa (hb4.block _ oM);have hz4:=hb4.size;have HB4:=Xa (Xe HB3b.out hb4);have HF4:=Xa (HF3b.keepS (fun k _ h2=>hb4.block k oM));clear hi4 hb4 ht4 HF3b HC3;have HP4:=Xa (Xb (Below.refl w4.heap.size w4) (.cells #[.int .i64 v,.slice a4 n c4] 32));have HXX:Hid ((w4.alloc (.cells #[.int .i64 v,.slice a4 n c4] 32)).cell? ⟨w4.heap.size,0,none⟩=some (.int .i64 v)/\(w4.alloc (.cells #[.int .i64 v,.slice a4 n c4] 32)).cell? ⟨w4.heap.size,1,none⟩=some (.slice a4 n c4)):=Xa (by simp[go_sem]);have hz4b:(w4.alloc (.cells #[.int .i64 v,.slice a4 n c4] 32)).heap.size=w4.heap.size+1:=sP
  go_wp2_with fail
  generalize w4.alloc (.cells #[.int .i64 v,.slice a4 n c4] 32)=wc at *;have hzc:w4.heap.size+1<=wc.heap.size:=oM;have HZC:=Xa hz4b;clear hz4b;have HBc:=Xa (Xe HB4.out HP4.out);refine(HIA.out a4 c4 wb.heap.size w4.heap.size wc (HI4.keep HP4.out) oM (hO.keep HBc.out hO.1) (hT.keep HBc.out hT.1) (hZ.of_block (HBc.block _ (World.block_lt_of_cell? w _ (hZ.out 0 vZ))))).mono ?_;rintro e w5 ⟨G1,rfl,hb5,hf5,hm5⟩;obtain⟨t1,n1,y1,rfl⟩:=hf5.form;have HF5:=Xa hf5;have HM5:=Xa hm5;have HB45:=Xa (Xe HP4.out hb5);have HBL:=Xa hb5;have hz5:=hb5.size;have HY5:Hid (w5.cell? ⟨w4.heap.size,0,none⟩=some (.int .i64 v)/\w5.cell? ⟨w4.heap.size,1,none⟩=some (.slice a4 n c4)):=Xa ⟨(hb5.cell (p:=⟨w4.heap.size,0,none⟩) (by show w4.heap.size<_;omega)).trans HXX.1,(hb5.cell (p:=⟨w4.heap.size,1,none⟩) (by show w4.heap.size<_;omega)).trans HXX.2⟩;clear hf5 hm5 hb5 HXX;have hl5:w3.heap.size<w5.heap.size:=oM;have x3:Hid (∀i,w5.cell? ⟨w3.heap.size,i,none⟩=wb.cell? ⟨w3.heap.size,i,none⟩):=Xa (fun i=>(HB45.cell (p:=⟨w3.heap.size,i,none⟩) (by show w3.heap.size<_;omega)).trans (Xc HX4.out));have z0:=(x3.out 0).trans HX3.1;have z1:=(x3.out 1).trans HX3.2.1;have z2:=(x3.out 2).trans HX3.2.2;obtain⟨wd,hwd⟩:∃wd,wd=w5.alloc (.cells #[.int .i64 cd,.slice t1 n1 y1,.int .i64 ct] 28):=⟨_,rfl⟩;have HB5d:Hid (Below w5.heap.size w5 wd):=Xa (by rw[hwd];exact Xb (Below.refl _ _) _);have hzd:wd.heap.size=w5.heap.size+1:=by rw[hwd];simp
  have HGD:Hid (wd.cell? ⟨w5.heap.size,0,none⟩=some (.int .i64 cd)/\wd.cell? ⟨w5.heap.size,1,none⟩=some (.slice t1 n1 y1)/\wd.cell? ⟨w5.heap.size,2,none⟩=some (.int .i64 ct)):=Xa (by rw[hwd];simp[go_sem]);have HCD:Hid (∀b i,b<w5.heap.size->wd.cell? ⟨b,i,none⟩=w5.cell? ⟨b,i,none⟩):=Xa (fun b i h=>HB5d.cell (p:=⟨b,i,none⟩) h);have HC5:Hid (w5.cell? ⟨w.heap.size,0,none⟩=some (.int .i64 v)/\w5.cell? ⟨w.heap.size,1,none⟩=some (.slice a n c)):=Xa ⟨(HB45.cell (p:=⟨w.heap.size,0,none⟩) (by show w.heap.size<_;omega)).trans HC4.1,(HB45.cell (p:=⟨w.heap.size,1,none⟩) (by show w.heap.size<_;omega)).trans HC4.2⟩;have HFA:Hid (∀W,(∀k,k<wd.heap.size->¬(wb.heap.size<=k/\k<w4.heap.size)->¬(wc.heap.size<=k/\k<w5.heap.size)->W.heap[k]?=wd.heap[k]?)->(W.cell? ⟨w.heap.size,0,none⟩=some (.int .i64 v)/\W.cell? ⟨w.heap.size,1,none⟩=some (.slice a n c))/\(W.cell? ⟨w3.heap.size,0,none⟩=some (.int .i64 cd)/\W.cell? ⟨w3.heap.size,1,none⟩=some (.slice r1 m1 s1)/\W.cell? ⟨w3.heap.size,2,none⟩=some (.int .i64 ct))/\(W.cell? ⟨w4.heap.size,0,none⟩=some (.int .i64 v)/\W.cell? ⟨w4.heap.size,1,none⟩=some (.slice a4 n c4))/\(W.cell? ⟨w5.heap.size,0,none⟩=some (.int .i64 cd)/\W.cell? ⟨w5.heap.size,1,none⟩=some (.slice t1 n1 y1)/\W.cell? ⟨w5.heap.size,2,none⟩=some (.int .i64 ct))/\Ui W w2.heap.size w3.heap.size cd ct lst (.agg #[.int .i64 cd,.slice r1 m1 s1,.int .i64 ct])):=Xa (fun W hW=>by
   have k0:=hW w.heap.size oM oM oM;have k3:=hW w3.heap.size oM oM oM;have k4:=hW w4.heap.size oM oM oM;have k5:=hW w5.heap.size oM oM oM;refine⟨⟨(Xc k0).trans ((HCD.out _ 0 oM).trans HC5.1),(Xc k0).trans ((HCD.out _ 1 oM).trans HC5.2)⟩,⟨(Xc k3).trans ((HCD.out _ 0 oM).trans z0),(Xc k3).trans ((HCD.out _ 1 oM).trans z1),(Xc k3).trans ((HCD.out _ 2 oM).trans z2)⟩,⟨(Xc k4).trans ((HCD.out _ 0 oM).trans HY5.1),(Xc k4).trans ((HCD.out _ 1 oM).trans HY5.2)⟩,⟨(Xc k5).trans HGD.1,(Xc k5).trans HGD.2.1,(Xc k5).trans HGD.2.2⟩,?_⟩;exact HF4.keepS (fun k _ h2=>(hW k oM oM oM).trans ((HB5d.block k oM).trans (HB45.block k oM))))
  have HFD:Hid (Ui wd wc.heap.size w5.heap.size cd ct lst (.agg #[.int .i64 cd,.slice t1 n1 y1,.int .i64 ct])):=Xa (HF5.keepS (Xu.of_below HB5d.out));have HBD:Hid (Below w.heap.size w wd):=Xa (Xe (Xe HB4.out HB45.out) HB5d.out);have HXD:Hid (Xl wd wb.heap.size w4.heap.size a4 xs):=Xa ((HI4.keep HB45.out).keep (HB5d.mono (by have:=HB45.size;omega)));have HTD:Hid (YY wb.heap.size w4.heap.size wd):=Xa ((YY.of HT4.out).keepS (fun k _ h2=>(HB5d.block k oM).trans (HB45.block k h2)));have HMD:Hid (ZcU w5 wc.heap.size (.agg #[.int .i64 cd,.slice t1 n1 y1,.int .i64 ct])):=HM5;have HEQ:=Xa (KU cd ct lst _ _ wc.heap.size w5.heap.size w2.heap.size w3.heap.size wd HFD.out (HFA.out wd (fun _ _ _ _=>rfl)).2.2.2.2 oM oM)
  go_wp2_with fail
  rw[<-hwd];clear hwd;clear z0 z1 z2;refine HEQ.mono ?_;rintro e w6 ⟨rfl,hb6⟩;have HB6:=Xa hb6;have hz6:=hb6.size;have HA6:=Xa (HFA.out w6 (fun k h _ _=>hb6.block k h));obtain⟨⟨d0,d1⟩,_,⟨d2,d3⟩,_,_⟩:=HFA.out w6 (fun k h _ _=>hb6.block k h);have HBw6:=Xa (Xe HBD.out hb6);have HX6:=Xa (HXD.keep (hb6.mono oM));clear hb6 HEQ;go_wp2
  go_region_with (first | (go_at_call 7;refine(Jv v a n c xs 0 w.heap.size _ (ha.keep HBw6.drew) hx hlen hnn (by show w.heap.size<=w6.heap.size;omega)).mono ?_;rintro e w7 ⟨a7,c7,rfl,hb7,hi7,ht7⟩;clear ht7;have HI7:=Xa hi7;clear hi7;have u0:=(hb7.cell (p:=⟨w4.heap.size,0,none⟩) (by show w4.heap.size<w6.heap.size;omega)).trans d2;have u1:=(hb7.cell (p:=⟨w4.heap.size,1,none⟩) (by show w4.heap.size<w6.heap.size;omega)).trans d3) | (go_at_call 10;refine(ZcC v _ _ _ _ _ xs wb.heap.size w4.heap.size w6.heap.size w7.heap.size _ (HX6.keep ((Below.refl w4.heap.size w6).drew.trans (hb7.mono (by show w4.heap.size<=w6.heap.size;omega)))) HI7 hx hlen hnn (by have:=hb7.size;have:w6.heap.size<=w7.heap.size:=this;omega) (Nat.le_refl _)).mono ?_;rintro e w8 ⟨rfl,hb8⟩))
  all_goals
   have HB8:=Xa (Xe (Xe HB6.drew hb7) hb8);have hz8:wd.heap.size<=w8.heap.size:=HB8.size;obtain⟨_,_,⟨p2,p3⟩,_,_⟩:=HFA.out w8 (fun k h _ _=>HB8.block k h);clear hb7 hb8 d0 d1 d2 d3;have HX8:Hid (Xl w8 wb.heap.size w4.heap.size a4 xs):=Xa (HXD.keepS (fun k _ h2=>HB8.block k oM));have HT8:Hid (YY wb.heap.size w4.heap.size w8):=Xa (HTD.keepS (fun k _ h2=>HB8.block k oM));have hsc:shsCnt (xs.map Xi.sh)<=10000000:=by have:=Zcn xs;have:=htot.out;omega
   go_wp2_with fail
   refine(WG v a4 n c4 1 xs wb.heap.size w4.heap.size _ HX8 hx HT8 hlen oM hnn oM oM hsc).mono ?_;generalize shsCnt (xs.map Xi.sh)=SC at *;rintro e w9 ⟨rfl,hm9⟩;have hz9:=hm9.size;have HA9:Hid (∀k,k<wd.heap.size->¬(wb.heap.size<=k/\k<w4.heap.size)->w9.heap[k]?=wd.heap[k]?):=Xa (fun k h1 h2=>(hm9.block k oM h2).trans (HB8.block k h1));have HB9:Hid (Below w.heap.size w w9):=Xa (hm9.below (Xe HBD.out HB8.out) oM);obtain⟨_,⟨z0,z1,z2⟩,_,⟨g0,g1,g2⟩,hf9⟩:=HFA.out w9 (fun k h1 h2 _=>HA9.out k h1 h2);have HF9:=Xa hf9;have HG9:Hid (Ui w9 wc.heap.size w5.heap.size cd ct lst (.agg #[.int .i64 cd,.slice t1 n1 y1,.int .i64 ct])):=Xa (HFD.keepS (fun k h1 h2=>HA9.out k oM oM));have HEQ:=Xa (KU cd ct lst _ _ wc.heap.size w5.heap.size w2.heap.size w3.heap.size w9 HG9.out HF9.out oM oM);have hkp:¬(1+(SC:Int)<0):=oM;clear hm9 hf9 p2 p3
   go_wp2_with fail
   refine HEQ.mono ?_;rintro e w10 ⟨rfl,hb10⟩;have hz10:=hb10.size;have HA10:Hid (∀k,k<wd.heap.size->¬(wb.heap.size<=k/\k<w4.heap.size)->w10.heap[k]?=wd.heap[k]?):=Xa (fun k h1 h2=>(hb10.block k oM).trans (HA9.out k h1 h2));have HB10:=Xa (Xe HB9.out hb10);have HMK:=Xa (HMD.out w10 (fun k h1 h2=>(HA10.out k oM oM).trans (HB5d.block k oM)) oM);clear hb10 HEQ z0 z1 z2 g0 g1 g2 HF9 HG9;obtain⟨_,_,_,⟨g0,g1,g2⟩,_⟩:=HFA.out w10 (fun k h1 h2 _=>HA10.out k h1 h2)
   go_wp2_with fail
   refine HMK.mono ?_;rintro e w11 ⟨m,rfl,hm,hmd,hz11,hheld⟩;have HHE:=Xa hheld;have HA11:Hid (∀k,k<wd.heap.size->¬(wb.heap.size<=k/\k<w4.heap.size)->¬(wc.heap.size<=k/\k<w5.heap.size)->w11.heap[k]?=wd.heap[k]?):=Xa (fun k h1 h2 h3=>(hmd.block k oM h3).trans (HA10.out k h1 h2));have HB11:Hid (Below w.heap.size w w11):=Xa (hmd.below HB10.out oM);clear hmd hheld HMK g0 g1 g2;obtain⟨_,_,_,⟨g0,g1,g2⟩,_⟩:=HFA.out w11 HA11.out
   go_wp2_with fail
   refine HHE.mono ?_;rintro e w12 ⟨rfl,hb12⟩;have hz12:=hb12.size;have HA12:Hid (∀k,k<wd.heap.size->¬(wb.heap.size<=k/\k<w4.heap.size)->¬(wc.heap.size<=k/\k<w5.heap.size)->w12.heap[k]?=wd.heap[k]?):=Xa (fun k h1 h2 h3=>(hb12.block k oM).trans (HA11.out k h1 h2 h3));have HB12:=Xa (Xe HB11.out hb12);have hm0:¬((m:Int)<0):=oM;have hmm:((m:Int) != (m:Int))=false:=sP;clear hb12 HHE g0 g1 g2;obtain⟨⟨e0,e1⟩,_,_,_,_⟩:=HFA.out w12 HA12.out
   go_wp2_with fail
   refine(Jv v a n c xs 0 w.heap.size _ (ha.keep HB12.out) hx hlen hnn oM).mono ?_;rintro e w13 ⟨a13,c13,rfl,hb13,hi13,ht13⟩;have HI13:=Xa hi13;have hz13:=hb13.size;have HA13:Hid (∀k,k<wd.heap.size->¬(wb.heap.size<=k/\k<w4.heap.size)->¬(wc.heap.size<=k/\k<w5.heap.size)->w13.heap[k]?=wd.heap[k]?):=Xa (fun k h1 h2 h3=>(hb13.block k oM).trans (HA12.out k h1 h2 h3));have HB13:=Xa (Xe HB12.out hb13);clear hb13 hi13 ht13 e0 e1
   go_wp2_with fail
   refine(HIA.out a13 c13 w12.heap.size w13.heap.size w13 HI13.out (Nat.le_refl _) (hO.keep HB13.out hO.1) (hT.keep HB13.out hT.1) (hZ.of_block (HB13.block _ (World.block_lt_of_cell? w _ (hZ.out 0 vZ))))).mono ?_;rintro e w14 ⟨G2,rfl,hb14,hf14,_⟩;obtain⟨o1,l1,j1,rfl⟩:=hf14.form;have hz14:=hb14.size;have HB14:=Xa (Xe HB13.out hb14);have HA14:Hid (∀k,k<wd.heap.size->¬(wb.heap.size<=k/\k<w4.heap.size)->¬(wc.heap.size<=k/\k<w5.heap.size)->w14.heap[k]?=wd.heap[k]?):=Xa (fun k h1 h2 h3=>(hb14.block k oM).trans (HA13.out k h1 h2 h3));obtain⟨we,hwe⟩:∃we,we=w14.alloc (.cells #[.int .i64 cd,.slice o1 l1 j1,.int .i64 ct] 28):=⟨_,rfl⟩;have HBe:Hid (Below w14.heap.size w14 we):=Xa (by rw[hwe];exact Xb (Below.refl _ _) _);have hze:=HBe.size;have hfe:=(HFA.out we (fun k h1 h2 h3=>(HBe.block k oM).trans (HA14.out k h1 h2 h3))).2.2.2.2;have HEQ:=Xa (KU cd ct lst _ _ w13.heap.size w14.heap.size w2.heap.size w3.heap.size we (hf14.keepS (Xu.of_below HBe.out)) hfe oM oM);obtain⟨_,⟨z0,z1,z2⟩,_,_,_⟩:=HFA.out w14 HA14.out;have hl14:w3.heap.size<w14.heap.size:=oM;clear hb14 hf14 hfe
   go_wp2_with fail
   rw[<-hwe];refine HEQ.mono ?_;rintro e w15 ⟨rfl,hb15⟩;have HB15:=Xa (Xe (Xe HB14.out HBe.out) hb15);clear hb15 HEQ hwe
   go_wp2_with fail
   go_ret
   exact⟨rfl,HB15.out⟩
end
end Go.Proofs.YthgikffcdgpgiaaGreatDoor
