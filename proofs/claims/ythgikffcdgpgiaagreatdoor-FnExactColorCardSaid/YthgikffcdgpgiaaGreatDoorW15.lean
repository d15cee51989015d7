import Derived.Deep.QuietTactic
import Derived.Test.YthgikffcdgpgiaaGreatDoorW8
import Derived.Test.YthgikffcdgpgiaaGreatDoorID1
namespace Go.Proofs.YthgikffcdgpgiaaGreatDoor
set_option maxHeartbeats 4000000
open Go.RowKit
def Cnt(w:World)(G m:Nat)(D:List Int):Prop:=∃f,w.rowIs G 2 m f/\∀i,i<m->f i=.int .i64 (countEq D i:Nat)
theorem Cnt.below{w w':World}{G m:Nat}{D:List Int}(h:Cnt w G m D)(k:Below w.heap.size w w'):Cnt w' G m D:=by
 obtain⟨f,h1,h2⟩:=h;exact⟨f,h1.of_block (k.block _ h1.lt),h2⟩
theorem Cnt.lt{w:World}{G m:Nat}{D:List Int}(h:Cnt w G m D):G<w.heap.size:=by
 obtain⟨f,h1,_⟩:=h;exact h1.lt
theorem Cnt.cell{w:World}{G m:Nat}{D:List Int}(h:Cnt w G m D){t:Nat}(ht:t<m):w.cell? ⟨G,t,none⟩=some (.int .i64 (countEq D t:Nat))/\w.frozen? ⟨G,t,none⟩=false:=by
 obtain⟨f,h1,h2⟩:=h;exact⟨by rw[h1.cell ht,h2 t ht],h1.frozen t⟩
theorem WH(D:List Int)(x v:Int):countEq (D++[x]) v=countEq D v+if x=v then 1 else 0:=by
 simp only[countEq,List.filter_append,List.length_append];by_cases h:x=v<;>simp[h]
theorem UB(D:List Int)(v:Int):countEq D v<=D.length:=List.length_filter_le _ _
theorem Cnt.step{w:World}{G m:Nat}{D:List Int}(h:Cnt w G m D){t:Nat}{x:Int}(hx:x=((countEq D t:Nat):Int)+1):Cnt (w.setCell ⟨G,t,none⟩ (.int .i64 x)) G m (D++[(t:Int)]):=by
 obtain⟨f,h1,h2⟩:=h;refine⟨_,h1.set t _,fun i hi=>?_⟩;rw[WH];by_cases e:i=t
 ·subst e
  simp[hx]
 ·have e2:¬(t:Int)=(i:Int):=oM
  simp only[e,if_false,e2,Nat.add_zero];exact h2 i hi
theorem Cnt.born(w:World)(m:Nat):Cnt (w.alloc (.cells (madeCells #[.int .i64 0] m) 2)) w.heap.size m []:=⟨_,World.rowIs_made _ _ _ _,fun i _=>by simp[countEq]⟩
def Zhh(xs:List Xi)(m:Nat):Prop:=∀x∈xs,(∀p∈x.phis,0<=p.dst/\p.dst<(m:Int))/\∀y∈x.instrs,1<=y.op/\y.op<=10/\(dB y.op=true->0<=y.dst/\y.dst<(m:Int))
theorem Uh(m:Nat)(a:Option Addr)(n c:Nat)(xs:List Xi)(L B:Nat)(w:World)(ha:Hid (Xl w L B a xs))(hx:Hid (n=xs.length))(hn:n<=1048576)(hm:m<=2000)(hs:Hid (Xk xs<=1048576))(hB:B<=w.heap.size)(hT:Hid (Ky w))(hd:Hid (Zhh xs m)) :
 Calls Tryz.prog 90 #[.agg #[.int .i64 m,.slice a n c]] w fun e w'=>e=.returned (.bool (J3 ⟨m,xs⟩))/\Below w.heap.size w w':=by
 have hmk:=run_make_row' (P:=Tryz.prog) 26 2 (.int .i64 0) 8 Tryz.underlying26 Tryz.info2 rfl .i64 .i64 m oM oM
 go_enter Tryz.func90,Tryz.ntmps90
 go_wp2
 go_loopw [18] (fun i wr=>∃k:Nat,k<=n/\i=.int .i64 k/\Below w.heap.size w wr/\Hid (Cnt wr (w.heap.size+1) m (blksDefs (xs.take k)))) (fun i _=>n-(intOf i).toNat)
 case atStart=>exact⟨0,Nat.zero_le _,rfl,Xb (Xb (Below.refl _ _) _) _,by have:=Cnt.born (w.alloc (.cells #[.int .i64 m,.slice a n c] 32)) m;rw[World.size_alloc]at this;exact this⟩
 case round =>
  obtain⟨k,hk,rfl,hw,hct⟩:=hrel;by_cases hlt:k<n
  ·have hkx:k<xs.length:=by have:=hx.out;omega
   obtain⟨b,o,rfl,⟨_,hbB⟩,hc⟩:=ha.out k hkx;have HC:=Xa hc;have hnx:Hid (blksDefs (xs.take (k+1))=blksDefs (xs.take k)++(X8 xs[k].phis++XG xs[k].instrs)):=by
    show _=_;rw[Xr _ _ hkx,K3];rfl
   have hbd:(blksDefs (xs.take k)).length+(xs[k].phis.length+XR xs[k].phis+xs[k].instrs.length)<=1048576:=by
    have h1:=Jp xs (k+1);rw[Xr _ _ hkx,Jq]at h1;have h2:=Jn (xs.take k);have h3:=hs.out;have h4:Zl xs[k]=xs[k].phis.length+XR xs[k].phis+xs[k].instrs.length:=rfl;omega
   have hpl:xs[k].phis.length<=1048576:=oM;have hil:xs[k].instrs.length<=1048576:=oM;obtain⟨hd1,hd2⟩:=hd.out _ (List.getElem_mem hkx);have HD1:=Xa hd1;have HD2:=Xa hd2;obtain⟨pa,pc,ia,ic,e0,e1,⟨e2,e3,e4,e5⟩,hp,hi⟩:=hc.keep (hw.mono hB) oM;have HP:=Xa hp;have HI:=Xa hi;have hct2:=Xa (hct.below (Xb (Below.refl wr.heap.size wr) (.cells #[.slice pa xs[k].phis.length pc,.slice ia xs[k].instrs.length ic,.int .i64 xs[k].term.kind,.int .i64 xs[k].term.a,.int .i64 xs[k].term.to,.int .i64 xs[k].term.els] 57)));have hGz:=hct.lt;clear hc HC hd1 hd2 hp hi hct;generalize hX:xs[k]=X at *;clear hX;generalize blksDefs (xs.take k)=D at *;have hwz:=hw.size;go_wp2;generalize hM:wr.heap.size=M at *;have HM:=Xa hM;clear hM e0 e1 e2 e3 e4 e5
   go_loopw [25] (fun i wi=>∃j:Nat,j<=X.phis.length/\i=.int .i64 j/\Below w.heap.size w wi/\M<wi.heap.size/\wi.cell? ⟨M,1,none⟩=some (.slice ia X.instrs.length ic)/\Hid (Cnt wi (w.heap.size+1) m (D++X8 (X.phis.take j)))/\Hid (XZ wi L B pa X.phis)/\Hid (XL wi L B ia X.instrs)) (fun i _=>X.phis.length-(intOf i).toNat)
   case atStart =>
    have hMM:=Xq HM;subst hMM;exact⟨0,Nat.zero_le _,rfl,Xb hw _,sP,sP,by show Cnt _ _ _ _;simpa [X8]using hct2.out,HP.keep (Xb (Below.refl wr.heap.size wr) _ |>.mono oM),HI.keep (Xb (Below.refl wr.heap.size wr) _ |>.mono oM)⟩
   case round =>
    clear hct2 HP HI hw HM;obtain⟨j,hj,rfl,hwi,hszi,hci,hcti,hpi,hii⟩:=hrel;have hwiz:=hwi.size;by_cases hjt:j<X.phis.length
    ·obtain⟨b',o',rfl,⟨_,hbB'⟩,aa,cc,g0,g1,_⟩:=hpi.out j hjt
     have h3:Hid (D++X8 (X.phis.take (j+1))=(D++X8 (X.phis.take j))++[X.phis[j].dst]):=by show _=_;rw[Xr _ _ hjt,Ua,List.append_assoc]
     have hl:(D++X8 (X.phis.take j)).length<=1048576:=by simp[X8];omega
     obtain⟨q0,q1⟩:=HD1.out _ (List.getElem_mem hjt);generalize X.phis[j]=P at *;generalize D++X8 (X.phis.take j)=D1 at *;obtain⟨d,ar⟩:=P;dsimp only at q0 q1 g0 g1 h3;obtain⟨t,rfl⟩:=Int.eq_ofNat_of_zero_le q0;have htm:t<m:=oM;have hc2:=hcti.below (Xb (Below.refl wr.heap.size wr) (.cells #[.int .i64 t,.slice aa ar.length cc] 64));obtain⟨k0,k1⟩:=hc2.cell htm;have hcb:=UB D1 t;have HC2:=Xa hc2;clear hc2;generalize hQ:countEq D1 t=Q at *;have HQ:=Xa hQ;clear hQ;go_wp2;refine⟨⟨j+1,oM,gM,(Xb hwi _).setCell (by dsimp only;omega) _,by rw[Xd];simp;omega,?_,?_,?_,?_⟩,by simp[intOf];omega⟩
     ·rw[World.cell?_setCell_other _ _ _ _ (by intro e;cases e;omega)]
      exact((Xb (Below.refl wr.heap.size wr) _).cell (p:=⟨M,1,none⟩) hszi).trans hci
     ·rw[h3.out]
      exact HC2.step (by rw[HQ.out])
     ·exact hpi.keepS ((Xu.of_below (Xb (Below.refl wr.heap.size wr) _ |>.mono oM)).setCell (Or.inr (by dsimp only;omega)) _)
     ·exact hii.keepS ((Xu.of_below (Xb (Below.refl wr.heap.size wr) _ |>.mono oM)).setCell (Or.inr (by dsimp only;omega)) _)
    ·have hE:=Xa (List.take_of_length_le (l:=X.phis) (i:=j) oM)
     go_wp2
     go_loopw [40] (fun i wi=>∃j:Nat,j<=X.instrs.length/\i=.int .i64 j/\Below w.heap.size w wi/\M<wi.heap.size/\Hid (Cnt wi (w.heap.size+1) m (D++X8 X.phis++XG (X.instrs.take j)))/\Hid (XL wi L B ia X.instrs)) (fun i _=>X.instrs.length-(intOf i).toNat)
     case atStart=>exact⟨0,Nat.zero_le _,rfl,hwi,hszi,by have:=hcti.out;rw[hE.out]at this;show Cnt _ _ _ _;simpa [XG]using this,hii.out⟩
     case round =>
      clear hwi hszi hci hcti hpi hii hE hwiz;obtain⟨j,hj,rfl,hwi,hszi,hcti,hii⟩:=hrel;have hwiz:=hwi.size;by_cases hjt:j<X.instrs.length
      ·obtain⟨b',o',rfl,⟨_,hbB'⟩,g0,g1,g2,g3,g4⟩:=hii.out j hjt
       have h3:Hid (D++X8 X.phis++XG (X.instrs.take (j+1))=(D++X8 X.phis++XG (X.instrs.take j))++(if dB X.instrs[j].op then [X.instrs[j].dst]else [])):=by show _=_;rw[Xr _ _ hjt,Tz,<-List.append_assoc]
       have hl:(D++X8 X.phis++XG (X.instrs.take j)).length<=1048576:=by have:=JM (X.instrs.take j);simp[X8]at this |-;omega
       obtain⟨q0,q1,q2⟩:=HD2.out _ (List.getElem_mem hjt);generalize X.instrs[j]=P at *;generalize D++X8 X.phis++XG (X.instrs.take j)=D1 at *;obtain⟨op,d,pA,pB,pI⟩:=P;dsimp only at q0 q1 q2 g0 g1 g2 g3 g4 h3;obtain⟨p,rfl⟩:=Int.eq_ofNat_of_zero_le (show 0<=op by omega);have hT2:=hT.keep (Xb hwi (.cells #[.int .i64 p,.int .i64 d,.int .i64 pA,.int .i64 pB,.int .i64 pI] 67));obtain⟨s,_,c1,_,_,_⟩:=hT2.2 p oM oM;have hT0:0<wr.heap.size:=oM;have hc2:=hcti.below (Xb (Below.refl wr.heap.size wr) (.cells #[.int .i64 p,.int .i64 d,.int .i64 pA,.int .i64 pB,.int .i64 pI] 67));clear hT2;cases hdb:dB p
       ·rw[hdb]at c1
        have HDB:=Xa hdb;have HC2:=Xa hc2;clear hdb hc2 q2;go_wp2;refine⟨⟨j+1,oM,gM,Xb hwi _,by simp;omega,?_,?_⟩,by simp[intOf];omega⟩
        ·rw[h3.out,HDB.out]
         show Cnt _ _ _ _;simpa using HC2.out
        ·exact hii.keepS (Xu.of_below (Xb (Below.refl wr.heap.size wr) _ |>.mono oM))
       ·obtain⟨q3,q4⟩:=q2 hdb
        rw[hdb]at c1;have HDB:=Xa hdb;obtain⟨t,rfl⟩:=Int.eq_ofNat_of_zero_le q3;have htm:t<m:=oM;obtain⟨k0,k1⟩:=hc2.cell htm;have hcb:=UB D1 t;have HC2:=Xa hc2;clear hdb hc2 q2;generalize hQ:countEq D1 t=Q at *;have HQ:=Xa hQ;clear hQ;go_wp2;refine⟨⟨j+1,oM,gM,(Xb hwi _).setCell (by dsimp only;omega) _,by rw[Xd];simp;omega,?_,?_⟩,by simp[intOf];omega⟩
        ·rw[h3.out,HDB.out,if_pos rfl]
         exact HC2.step (by rw[HQ.out])
        ·exact hii.keepS ((Xu.of_below (Xb (Below.refl wr.heap.size wr) _ |>.mono oM)).setCell (Or.inr (by dsimp only;omega)) _)
      ·have hE:=Xa (List.take_of_length_le (l:=X.instrs) (i:=j) oM)
       go_wp2;exact⟨⟨k+1,oM,gM,hwi,by have:=hcti.out;rw[hE.out]at this;rw[hnx.out,<-List.append_assoc];exact this⟩,by simp[intOf];omega⟩
  ·have hE:=Xa (List.take_of_length_le (l:=xs) (i:=k) (by have:=hx.out;omega))
   have hct2:=hct.out;rw[hE.out]at hct2;have HCT:=Xa hct2;clear hct2 hct;go_wp2
   go_loop [60] (fun i=>∃j:Nat,j<=m/\i=.int .i64 j/\Hid (∀q,q<j->countEq (blksDefs xs) (q:Nat)=1)) (fun i=>m-(intOf i).toNat)
   case atStart=>exact⟨0,Nat.zero_le _,rfl,fun q hq=>absurd hq oM⟩
   case round =>
    obtain⟨j,hj,rfl,hall⟩:=hrel;by_cases hjt:j<m
    ·obtain⟨k0,k1⟩:=HCT.cell hjt
     generalize hQ:countEq (blksDefs xs) (j:Nat)=Q at *;have HQ:=Xa hQ;clear hQ k1;by_cases h1:Q=1
     ·subst h1
      go_wp2
      go_round
      case rel=>exact⟨j+1,oM,gM,fun q hq=>if e:q=j then by subst e;exact HQ.out else hall.out q oM⟩
      case measure=>simp[intOf];omega
     ·have h2:((Q:Int) != 1)=true:=by rw[bne_iff_ne];omega
      have H1:=Xa h1;clear h1;go_wp2
      go_ret
      exact⟨Xm (by
       symm;unfold J3;rw[List.all_eq_false];exact⟨j,by simpa using hjt,by simp only[HQ.out,beq_iff_eq];exact H1.out⟩),hw⟩
    ·go_wp2
     go_ret
     exact⟨Xm (by
      symm;unfold J3;rw[List.all_eq_true];intro q hq;rw[beq_iff_eq];exact hall.out q (by simp at hq;omega)),hw⟩
def ZaN(xs:List Xi)(n:Nat):Prop:=∀x∈xs,(∀t∈x.term.targets,0<=t/\t<(n:Int))/\x.term.targets.Nodup
def Yl(xs:List Xi)(k:Nat)(ts:List Int)(i:Nat):List Int:=predsFrom (xs.take k) 0 i++(if ts.contains (i:Int)then [(k:Int)]else [])
theorem Td(xs:List Xi)(k i:Nat):Yl xs k [] i=predsFrom (xs.take k) 0 i:=by simp[Yl]
theorem UP(xs:List Xi)(k i:Nat)(hk:k<xs.length):Yl xs k xs[k].term.targets i=predsFrom (xs.take (k+1)) 0 i:=by
 unfold Yl;rw[Xr _ _ hk,Zg];simp[Nat.min_eq_left (Nat.le_of_lt hk)]
theorem VC(xs:List Xi)(k i:Nat)(ts:List Int)(t:Nat)(h:(t:Int) ∉ ts):Yl xs k (ts++[(t:Int)]) i=if i=t then Yl xs k ts t++[(k:Int)]else Yl xs k ts i:=by
 unfold Yl;by_cases e:i=t
 ·subst e
  simp[h]
 ·have h1:(ts++[(t:Int)]).contains (i:Int)=ts.contains (i:Int):=by
   rw[Bool.eq_iff_iff];simp only[List.contains_iff_mem,List.mem_append,List.mem_singleton];constructor
   ·rintro(h | h)
    ·exact h
    ·omega
   ·exact Or.inl
  rw[if_neg e,h1]
theorem Zau(xs:List Xi)(k i:Nat)(ts:List Int)(h:k<=xs.length):(Yl xs k ts i).length<=k+1:=by
 unfold Yl;have:=Yc (i:Int) (xs.take k) 0;simp only[List.length_take]at this;rw[List.length_append];split<;>simp<;>omega
theorem Zi(v:Int)(a:Option Addr)(n c:Nat)(xs:List Xi)(L B:Nat)(w:World)(ha:Hid (Xl w L B a xs))(hx:Hid (n=xs.length))(hn:n<=1048576)(hB:B<=w.heap.size)(hg:Hid (ZaN xs n)) :
 Calls Tryz.prog 104 #[.agg #[.int .i64 v,.slice a n c]] w fun e w'=>∃U,e=.returned (.slice (some ⟨w.heap.size+1,0,none⟩) n n)/\Below w.heap.size w w'/\YC w' (w.heap.size+1) n (fun i:Nat=>predsFrom xs 0 (i:Int)) U:=by
 obtain⟨i0,hi0,hz0,hz1,hz2⟩:=info_parts Tryz.info2';have hmk:=run_make_row' (P:=Tryz.prog) 155 26 (.slice none 0 0) 24 Tryz.underlying155 Tryz.info45 rfl .i64 .i64 n oM oM
 go_enter Tryz.func104,Tryz.ntmps104
 go_wp2
 go_loopw [15] (fun i wr=>∃k:Nat,k<=n/\i=.int .i64 k/\Below w.heap.size w wr/\Hid (∃U,YC wr (w.heap.size+1) n (Yl xs k []) U)) (fun i _=>n-(intOf i).toNat)
 case atStart=>exact⟨0,Nat.zero_le _,rfl,Xb (Xb (Below.refl _ _) _) _,⟨_,by have:=YC.born (w.alloc (.cells #[.int .i64 v,.slice a n c] 32)) n;rw[World.size_alloc]at this;exact this⟩⟩
 case round =>
  obtain⟨k,hk,rfl,hw,hrw⟩:=hrel;by_cases hlt:k<n
  ·have hkx:k<xs.length:=by have:=hx.out;omega
   obtain⟨b,o,rfl,⟨_,hbB⟩,hc⟩:=ha.out k hkx;obtain⟨pa,pc,ia,ic,e0,e1,⟨e2,e3,e4,e5⟩,_,_⟩:=hc.keep (hw.mono hB) oM;have hwh:=Xa (fun i=>UP xs k i hkx);obtain⟨hg1,hg2⟩:=hg.out _ (List.getElem_mem hkx);have HG1:=Xa hg1;have HG2:=Xa hg2;clear hc hg1 hg2;generalize xs[k]=X at *
   go_wp2_with fail
   refine(Jz X.term _).mono ?_;rintro e w2 ⟨a1,c1,rfl,hb2,hi2⟩;have hb3:=Xe (Xb (Below.refl wr.heap.size wr) _) hb2;have hz3:=hb2.size;simp at hz3;have hz4:wr.heap.size<w2.heap.size:=oM;have HI:=Xa hi2;have hGlt:w.heap.size+1<wr.heap.size:=by obtain⟨U,hU⟩:=hrw.out;exact hU.1.lt
   have HR:Hid (∃U,YC w2 (w.heap.size+1) n (Yl xs k []) U/\∀i g,i<n->(U i).ownBlock=some g->g<=wr.heap.size\/w2.heap.size<=g):=by
    obtain⟨U,hU⟩:=hrw.out;exact⟨U,hU.below hb3,fun i g hi hg=>by have:=((hU.2.1 i hi).lt g hg).2;omega⟩
   have HW:=Xa (Xe hw hb3);have htl:X.term.targets.length<=2:=by unfold ZX.targets;split<;>(try split)<;>simp
   generalize hT:X.term.targets=ts at *;clear hT hi2 hrw e0 e1 e2 e3 e4 e5 hw;simp only[World.size_alloc]at HI;generalize hM:wr.heap.size=M at *;clear hM;go_wp2
   go_loopw [24] (fun i wi=>∃j:Nat,j<=ts.length/\i=.int .i64 j/\Below w.heap.size w wi/\w2.heap.size<=wi.heap.size/\Hid (Xg wi (M+1) w2.heap.size a1 ts)/\Hid (∃U,YC wi (w.heap.size+1) n (Yl xs k (ts.take j)) U/\∀i g,i<n->(U i).ownBlock=some g->g<=M\/w2.heap.size<=g)) (fun i _=>ts.length-(intOf i).toNat)
   case atStart=>exact⟨0,Nat.zero_le _,rfl,HW.out,Nat.le_refl _,HI.out,HR.out⟩
   case round =>
    obtain⟨j,hj,rfl,hwi,hszi,hii,hri⟩:=hrel;by_cases hjt:j<ts.length
    ·obtain⟨b',o',rfl,_,hcj⟩:=hii.out j hjt
     obtain⟨ht0,ht1⟩:=HG1.out _ (List.getElem_mem hjt);have hnd:Hid (ts[j] ∉ ts.take j):=by
      intro hm;obtain⟨m,hm1,hm2⟩:=List.getElem_of_mem hm;simp only[List.length_take]at hm1;rw[List.getElem_take]at hm2;have:=(List.getElem_inj HG2.out).1 hm2;omega
     have hts:Hid (ts.take (j+1)=ts.take j++[ts[j]]):=Xr _ _ hjt;obtain⟨U,hU,hav⟩:=hri.out;have HAV:=Xa hav;clear hav;obtain⟨t,htt⟩:=Int.eq_ofNat_of_zero_le ht0;generalize ts[j]=T at *;subst htt;have htn:t<n:=oM;have hcU:=hU.1.cell htn;have hfU:=hU.1.frozen t;have hpl:=Zau xs k t (ts.take j) (by have:=hx.out;omega);have HU:=Xa hU;clear hU hri
     go_wp2_with (at_builtin;refine wpList_append_own_at _ rfl _ _ 26 rfl (w.heap.size+1+1) 2 i0 (.int .i64 0) 1 8 Tryz.underlying26 hi0 hz0 hz1 hz2 rfl vZ _ _ _ rfl ((HU.alloc _).2.1 t htn) ⟨wr.heap.size,0,none⟩ 1 1 [.int .i64 k] rfl rfl ?c1 ?c2 ?c3 ?c4 ?c5 ?_)
     case c1 =>
      intro j u hj
      match j,hj with
      | 0,hj=>simp at hj;subst hj;simp[Addr.add]
     case c2=>intro u hu;simp at hu;subst hu;rfl
     case c3=>unfold maxLen;omega
     case c4=>omega
     case c5=>have:=HU.1.lt;simp;omega
     intro v1 w1 hown1 hgrow1 _ hat1;obtain⟨av,cv,hv,_⟩:=Xj (xs:=Yl xs k (ts.take j) t++[(k:Int)]) (by rw[Ys];exact hown1);have hst:=Xa ((HU.alloc (.cells #[.int .i64 k] 2)).step htn k v1 hgrow1 hown1 (by rw[World.size_alloc];exact hat1));have hbG:w1.heap[w.heap.size+1]?=(wr.alloc (.cells #[.int .i64 k] 2)).heap[w.heap.size+1]?:=Y9 hgrow1 ((HU.alloc (.cells #[.int .i64 k] 2)).2.1 t htn) oM (by have:=HU.1.lt;simp;omega);have hbel:=Xa (XI (Xb hwi (.cells #[.int .i64 k] 2)) hgrow1 ((HU.alloc (.cells #[.int .i64 k] 2)).2.1 t htn) oM (by have:=hwi.size;simp;omega));have hcG:w1.cell? ⟨w.heap.size+1,t,none⟩=some (U t):=by rw[Xc hbG];exact((HU.alloc (.cells #[.int .i64 k] 2)).1).cell htn
     have hfG:w1.frozen? ⟨w.heap.size+1,t,none⟩=false:=by rw[World.frozen?_of_block (w:=wr.alloc (.cells #[.int .i64 k] 2)) (a:=⟨w.heap.size+1,t,none⟩) hbG];exact((HU.alloc (.cells #[.int .i64 k] 2)).1).frozen t
     have hgz:=hgrow1.size;simp at hgz;have hsm:Xu (M+1) w2.heap.size wr w1:=fun q q1 q2=>(hgrow1.block q (by simp;omega) (fun e=>by have:=HAV.out t q htn e.symm;omega)).trans (Below.heap_alloc _ _ _ oM)
     have HSM:=Xa hsm;have hii2:=Xa (hii.keepS hsm);have HAT:=Xa hat1;have HV:=Xa hv;clear hsm;clear hown1 hgrow1 hat1 hbG hcU hfU;rw[hv];clear hv;go_wp2;have hv2:=HV.out;rw[List.length_append,List.length_cons,List.length_nil,Nat.zero_add]at hv2;rw[<-hv2];refine⟨⟨j+1,oM,gM,hbel.setCell (by dsimp only;omega) _,by rw[Xd];omega,hii2.keepS ((Xu.refl _ _ _).setCell (Or.inl (by dsimp only;omega)) _),⟨_,(hst.out).congr (fun i _=>?_),fun i g hi hg=>?_⟩⟩,by simp[intOf];omega⟩
     ·rw[hts.out,VC xs k i (ts.take j) t hnd.out]
     ·by_cases e:i=t
      ·subst e
       simp only[if_true]at hg;rcases HAT.out with q | q
       ·exact HAV.out i g hi (by rw[<-q];exact hg)
       ·rw[q]at hg
        have:=Option.some.inj hg;omega
      ·simp only[e,if_false]at hg
       exact HAV.out i g hi hg
    ·have E:=Xa (List.take_of_length_le (l:=ts) (i:=j) oM)
     go_wp2;refine⟨⟨k+1,oM,gM,hwi,?_⟩,by simp[intOf];omega⟩;obtain⟨U,hU,_⟩:=hri.out;exact⟨U,hU.congr (fun i _=>by rw[E.out,hwh.out,Td])⟩
  ·go_wp2
   go_ret
   obtain⟨U,hU⟩:=hrw.out;have e:=List.take_of_length_le (l:=xs) (i:=k) (by have:=hx.out;omega);exact⟨U,rfl,hw,hU.congr (P':=fun i:Nat=>predsFrom xs 0 (i:Int)) (fun i _=>by rw[Td,e])⟩
theorem TB(v:Int)(a:Option Addr)(n c:Nat)(xs:List Xi)(L B:Nat)(w:World)(ha:Hid (Xl w L B a xs))(hx:Hid (n=xs.length))(hn:n<=1048576)(hB:B<=w.heap.size)(hg:Hid (ZaN xs n)) :
 Calls Tryz.prog 104 #[.agg #[.int .i64 v,.slice a n c]] w fun e w'=>∃a' c',e=.returned (.slice a' n c')/\Below w.heap.size w w'/\XF w' w.heap.size w'.heap.size a' ((List.range n).map fun i:Nat=>predsFrom xs 0 (i:Int)) :=
 (Zi v a n c xs L B w ha hx hn hB hg).mono (by
  rintro e w' ⟨U,rfl,hb,h⟩;exact⟨_,_,rfl,hb,h.ints.mono oM (Nat.le_refl _)⟩)
theorem YG(ok:Int->Nat->Ph->Bool)(F:Fn):∀(xs:List Xi)(i0:Nat),YA ok F xs i0=true↔∀j (h:j<xs.length),xs[j].phis.all (ok F.values (F.preds ((i0+j:Nat):Int)).length)=true
 | [],_=>by simp[YA]
 | x::xs,i0=>by
  simp only[YA,Bool.and_eq_true,YG ok F xs (i0+1)];constructor
  ·rintro⟨h1,h2⟩ j hj
   cases j with
   | zero=>exact h1
   | succ j =>
    have:=h2 j (by simpa using hj);have e:i0+1+j=i0+(j+1):=oM;rw[e]at this;exact this
  ·intro h
   refine⟨h 0 sP,fun j hj=>?_⟩;have:=h (j+1) (by simpa using hj);have e:i0+1+j=i0+(j+1):=oM;rw[e];exact this
theorem TW(ok:Int->Nat->Ph->Bool)(F:Fn){k:Nat}(hk:k<F.blocks.length)(h:F.blocks[k].phis.all (ok F.values (F.preds (k:Int)).length)=false):YA ok F F.blocks 0=false:=by
 rw[Bool.eq_false_iff];intro hc;have:=(YG ok F F.blocks 0).1 hc k hk;rw[Nat.zero_add,h]at this;cases this
theorem V8(v:Int)(a:Option Addr)(n c:Nat)(xs:List Xi)(L B:Nat)(w:World)(ha:Hid (Xl w L B a xs))(hx:Hid (n=xs.length))(hn:n<=1048576)(hl:Hid (∀x∈xs,x.phis.length<=1048576/\∀p∈x.phis,p.args.length<=1048576))(hB:B<=w.heap.size)(hg:Hid (ZaN xs n)) :
 Calls Tryz.prog 89 #[.agg #[.int .i64 v,.slice a n c]] w fun e w'=>e=.returned (.bool (Jt ⟨v,xs⟩))/\Below w.heap.size w w':=by
 go_enter Tryz.func89,Tryz.ntmps89
 go_wp2_with fail
 refine(TB v a n c xs L B _ ?q1 hx hn ?q2 hg).mono ?_
 case q1=>exact ha.keep (Xb (Below.refl _ _) _ |>.mono hB)
 case q2=>simp;omega
 rintro e w1 ⟨pa,pc,rfl,hb1,hp1⟩;have hB1:=Xe (Xb (Below.refl w.heap.size w) _) hb1;have hz1:=hb1.size;simp at hz1;obtain⟨hc1,hf1⟩:=bcell hb1;have k0:w1.cell? ⟨w.heap.size,0,none⟩=some (.int .i64 v):=by rw[hc1 _ _ sP];simp
 have k1:w1.cell? ⟨w.heap.size,1,none⟩=some (.slice a n c):=by rw[hc1 _ _ sP];simp
 have HA:=Xa (ha.keep (hB1.mono hB));have HPR:=Xa hp1;have HB1:=Xa hB1;clear hc1 hf1 hp1 hb1 ha hB1;go_wp2
 go_loopw [15] (fun i wr=>∃k:Nat,k<=n/\i=.int .i64 k/\Below w1.heap.size w1 wr/\Hid (∀j (h:j<xs.length),j<k->xs[j].phis.all (Zh v (predsFrom xs 0 (j:Int)).length)=true)) (fun i _=>n-(intOf i).toNat)
 case atStart=>exact⟨0,Nat.zero_le _,rfl,Below.refl _ _,fun j _ h=>absurd h oM⟩
 case round =>
  obtain⟨k,hk,rfl,hw,hall⟩:=hrel;by_cases hlt:k<n
  ·have hkx:k<xs.length:=by have:=hx.out;omega
   obtain⟨b,o,rfl,⟨_,hbB⟩,hc⟩:=HA.out k hkx;obtain⟨pa',pc',ia,ic,d0,d1,⟨d2,d3,d4,d5⟩,hp,_⟩:=hc;have e0:=(XD hw oM).trans d0;have e1:=(XD hw oM).trans d1;have e2:=(XD hw oM).trans d2;have e3:=(XD hw oM).trans d3;have e4:=(XD hw oM).trans d4;have e5:=(XD hw oM).trans d5;obtain⟨hl1,hl2⟩:=hl.out _ (List.getElem_mem hkx);have HL2:=Xa hl2;have hno:Hid (xs[k].phis.all (Zh v (predsFrom xs 0 (k:Int)).length)=false->Jt ⟨v,xs⟩=false):=fun h=>TW Zh ⟨v,xs⟩ (k:=k) hkx h
   have hlen:k<((List.range n).map fun i:Nat=>predsFrom xs 0 (i:Int)).length:=by simpa using hlt
   obtain⟨gb,go,rfl,⟨_,hgB⟩,a',c',f0,hii⟩:=HPR.out k hlen;simp only[List.getElem_map,List.getElem_range]at f0;have HP:=Xa hp;have hnl:(predsFrom xs 0 (k:Int)).length<=1048576:=by have:=Yc (k:Int) xs 0;have:=hx.out;omega
   have HF0:=Xa f0;have hwz:=hw.size;have hyes:Hid (xs[k].phis.all (Zh v (predsFrom xs 0 (k:Int)).length)=true->∀j (h:j<xs.length),j<k+1->xs[j].phis.all (Zh v (predsFrom xs 0 (j:Int)).length)=true) :=
    fun h j hj hjk=>if e:j=k then by subst e;exact h else hall.out j hj oM
   clear hp hl2 f0 hii hlen d0 d1 d2 d3 d4 d5;generalize xs[k]=X at *;generalize predsFrom xs 0 (k:Int)=ps at *;go_wp2;generalize hM:wr.heap.size=M at *;have HM:=Xa hM;clear hM
   go_loopw [23] (fun i wi=>∃j:Nat,j<=X.phis.length/\i=.int .i64 j/\Below w1.heap.size w1 wi/\Hid ((X.phis.take j).all (Zh v ps.length)=true)) (fun i _=>X.phis.length-(intOf i).toNat)
   case atStart=>exact⟨0,Nat.zero_le _,rfl,Xb hw _,rfl⟩
   case round =>
    obtain⟨j,hj,rfl,hwi,halli⟩:=hrel;have f0:=(XD hwi oM).trans HF0.out;have k0':=(XD hwi oM).trans k0;by_cases hjt:j<X.phis.length
    ·obtain⟨b',o',rfl,⟨_,hbB'⟩,aa,cc,g0,g1,hi⟩:=HP.out j hjt
     have e6:=(XD hwi oM).trans g0;have e7:=(XD hwi oM).trans g1;have hal:=HL2.out _ (List.getElem_mem hjt);have hno2:=Xa (fun h=>Xq hno (ZA (p:=Zh v ps.length) (xs:=X.phis) (k:=j) hjt h));have hyes2:=Xa (fun h=>XM (p:=Zh v ps.length) hjt halli.out h);have HIA:=Xa hi;clear g0 g1 hi;generalize X.phis[j]=P at *;have hq1:w.heap.size<wr.heap.size:=by have:=hwi.size;omega
     have hq2:gb<wr.heap.size:=by have:=hwi.size;omega
     have hPS:Hid (Zh v ps.length P=(JI true P.dst 0 v&&(decide (1<=P.args.length)&&decide (P.args.length=ps.length)&&P.args.all (JH 0 v)))):=rfl;cases hf:JI true P.dst 0 v
     ·have HF:=Xa hf
      go_wp2
      go_quiet ((go_at_call 123;exact Calls.quiet_of_same (XU _ _ _ _ _)))
      go_wp2
      go_ret
      exact⟨Xm (Xq hno2 (by rw[hPS.out,HF.out];rfl)).symm,Xe HB1.out (below_drewN (Xb hwi _) _)⟩
     ·have HF:=Xa hf
      by_cases h0:P.args.length=0
      ·have h0':((P.args.length:Int)==0)=true:=by simp[h0]
       have H0:=Xa h0;clear h0;go_wp2
       go_quiet ((go_at_call 123;exact Calls.quiet_of_same (XU _ _ _ _ _)))
       go_wp2
       go_ret
       exact⟨Xm (Xq hno2 (by rw[hPS.out,HF.out,H0.out];rfl)).symm,Xe HB1.out (below_drewN (Xb hwi _) _)⟩
      ·have h0':((P.args.length:Int)==0)=false:=by rw[beq_eq_false_iff_ne];omega
       have H0:=Xa h0;clear h0;by_cases h1:P.args.length=ps.length
       ·have h1':((P.args.length:Int) != (ps.length:Int))=false:=by simp[h1]
        have H1:=Xa h1;clear h1;go_wp2
        go_quiet ((go_at_call 123;exact Calls.quiet_of_same (XU _ _ _ _ _)))
        go_wp2;have hb9:=below_drewN (Xb hwi (.cells #[.int .i64 P.dst,.slice aa P.args.length cc] 64)) nq;generalize (wr.alloc (.cells #[.int .i64 P.dst,.slice aa P.args.length cc] 64)).drewN nq=w9 at *;have r0:=(XD hb9 oM).trans k0;clear hf h0' h1' f0 k0' e6 e7
        go_loop [53] (fun i=>∃q:Nat,q<=P.args.length/\i=.int .i64 q/\Hid ((P.args.take q).all (JH 0 v)=true)) (fun i=>P.args.length-(intOf i).toNat)
        case atStart=>exact⟨0,Nat.zero_le _,rfl,rfl⟩
        case round =>
         obtain⟨q,hq,rfl,hallq⟩:=hrel;by_cases hqt:q<P.args.length
         ·obtain⟨b2,o2,rfl,⟨_,hb2⟩,hc2⟩:=HIA.out q hqt
          have r1:=(XD hb9 oM).trans hc2;have hno3:=Xa (fun h=>ZA (p:=JH 0 v) (xs:=P.args) (k:=q) hqt h);have hyes3:=Xa (fun h=>XM (p:=JH 0 v) hqt hallq.out h);clear hc2;generalize P.args[q]=A at *;have hfA:Hid (JI true A 0 v=JH 0 v A):=rfl;cases hr:JI true A 0 v
          ·have HR:=Xa hr
           go_wp2_with (go_at_call 123;refine(XU _ _ _ _ _).mono ?_;rintro e w2 ⟨rfl,hw2⟩;rw[hw2];clear hw2 w2)
           go_ret
           exact⟨Xm (Xq hno2 (by rw[hPS.out,Xq hno3 (by rw[<-hfA.out];exact HR.out)];simp)).symm,Xe HB1.out hb9⟩
          ·have HR:=Xa hr
           go_wp2_with (go_at_call 123;refine(XU _ _ _ _ _).mono ?_;rintro e w2 ⟨rfl,hw2⟩;rw[hw2];clear hw2 w2)
           go_round
           case rel=>exact⟨q+1,oM,gM,Xq hyes3 (by rw[<-hfA.out];exact HR.out)⟩
           case measure=>simp[intOf];omega
         ·go_wp2
          exact⟨⟨j+1,oM,gM,hb9,Xq hyes2 (by
           have h1:=H1.out;have h0:=H0.out;rw[hPS.out,HF.out,decide_eq_true h1,decide_eq_true (p:=1<=P.args.length) oM,Yi (xs:=P.args) (k:=q) oM hallq.out];rfl)⟩,by simp[intOf];omega⟩
       ·have h1':((P.args.length:Int) != (ps.length:Int))=true:=by rw[bne_iff_ne];omega
        have H1:=Xa h1;clear h1;go_wp2
        go_quiet ((go_at_call 123;exact Calls.quiet_of_same (XU _ _ _ _ _)))
        go_wp2
        go_ret
        exact⟨Xm (Xq hno2 (by rw[hPS.out,HF.out,decide_eq_false H1.out];simp)).symm,Xe HB1.out (below_drewN (Xb hwi _) _)⟩
    ·go_wp2
     exact⟨⟨k+1,oM,gM,hwi,Xq hyes (Yi (xs:=X.phis) (k:=j) oM halli.out)⟩,by simp[intOf];omega⟩
  ·go_wp2
   go_ret
   exact⟨Xm (by
    symm;exact(YG Zh ⟨v,xs⟩ xs 0).2 (fun j hj=>by rw[Nat.zero_add];exact hall.out j hj (by have:=hx.out;omega))),Xe HB1.out hw⟩
theorem Tp{v:Int}{xs:List Xi}(h:Z1 ⟨v,xs⟩=true):ZaN xs xs.length:=by
 intro x hx;have h1:Zm v xs.length x.term=true:=List.all_eq_true.1 h x hx;simp only[Zm,YI,Bool.and_eq_true,decide_eq_true_eq]at h1;obtain⟨⟨⟨⟨⟨h2,h3⟩,h4⟩,h5⟩,h6⟩,h7⟩:=h1;have hc:x.term.kind=1\/x.term.kind=2\/x.term.kind=3:=oM;rcases hc with e | e | e
 ·simp only[e,JI]at h5
  simp[ZX.targets,e]at h5 |-;omega
 ·simp only[e,JI]at h5 h6 h7
  simp[ZX.targets,e]at h5 h6 h7 |-;refine⟨?_,h7⟩;omega
 ·simp[ZX.targets,e]
theorem ZdN{m:Nat}{xs:List Xi}(h:YL ⟨m,xs⟩=true)(k:Jt ⟨m,xs⟩=true):Zhh xs m:=by
 intro x hx;constructor
 ·intro p hp
  obtain⟨j,hj,rfl⟩:=List.getElem_of_mem hx;have h1:=(YG Zh ⟨m,xs⟩ xs 0).1 k j hj;have h2:=List.all_eq_true.1 h1 p hp;simp only[Zh,JI,Bool.and_eq_true,decide_eq_true_eq,if_true]at h2;exact h2.1
 ·intro y hy
  have h1:=List.all_eq_true.1 (List.all_eq_true.1 h x hx) y hy;simp only[Ya,Bool.and_eq_true,decide_eq_true_eq]at h1;obtain⟨⟨⟨⟨⟨h2,h3⟩,h4⟩,_⟩,_⟩,_⟩:=h1;refine⟨h2,h3,fun hd=>?_⟩;rw[hd]at h4;simpa [JI]using h4
theorem KX(xs:List Xi):Xo xs=xs.length+Xk xs:=by
 induction xs with
 | nil=>rfl
 | cons x xs ih =>
  have h1:Xo (x::xs)=Kj x+Xo xs:=by simp[Xo]
  have h2:Xk (x::xs)=Zl x+Xk xs:=by simp[Xk]
  have h3:XK x.phis=x.phis.length+XR x.phis:=by
   generalize x.phis=ps
   induction ps with
   | nil=>rfl
   | cons p ps ih=>simp only[XK,XR,List.map_cons,List.sum_cons,List.length_cons]at ih |-;omega
  rw[h1,h2,ih,List.length_cons];simp only[Kj,Zl];omega
theorem Zit{xs:List Xi}{x:Xi}(h:x∈xs):x.phis.length+XR x.phis+x.instrs.length<=Xk xs:=by
 induction xs with
 | nil=>cases h
 | cons y ys ih =>
  have h2:Xk (y::ys)=Zl y+Xk ys:=by simp[Xk]
  rcases List.mem_cons.1 h with rfl | h
  ·rw[h2];simp only[Zl];omega
  ·have:=ih h;omega
theorem Zja{ps:List Ph}{p:Ph}(h:p∈ps):p.args.length<=XR ps:=by
 induction ps with
 | nil=>cases h
 | cons y ys ih =>
  have h2:XR (y::ys)=y.args.length+XR ys:=by simp[XR]
  rcases List.mem_cons.1 h with rfl | h
  ·omega
  ·have:=ih h;omega
theorem KP{xs:List Xi}(h:xs.length+Xk xs<=1048576):KD xs:=fun x hx=>by
 have h1:=Zit hx;exact⟨oM,oM,fun p hp=>by have:=Zja hp;omega⟩
theorem JL(v:Int)(a:Option Addr)(n c:Nat)(xs:List Xi)(L B:Nat)(w:World)(ha:Hid (Xl w L B a xs))(hx:Hid (n=xs.length))(hs:Hid (xs.length+Xk xs<=1048576))(hB:B<=w.heap.size)(hO:Hid (Ky w))(hT:Hid (Kd w)) :
 Calls Tryz.prog 52 #[.agg #[.int .i64 v,.slice a n c]] w fun e w'=>e=.returned (.bool (XQ ⟨v,xs⟩))/\Below w.heap.size w w':=by
 have hn:n<=1048576:=by have:=hx.out;have:=hs.out;omega
 have hbs:Xo xs<=1048576:=by rw[KX];exact hs.out
 have hlen:=Xa (KP hs.out);have ha1:=fun o=>ha.keep ((Xb (Below.refl w.heap.size w) o).mono hB)
 have HBS:=Xa hbs;clear hbs;have hV:Hid (XQ ⟨v,xs⟩=(Yb ⟨v,xs⟩ && Z1 ⟨v,xs⟩ && YL ⟨v,xs⟩ && Jt ⟨v,xs⟩ && J3 ⟨v,xs⟩)):=rfl;cases h1:Yb ⟨v,xs⟩
 ·have H1:=Xa h1
  have hA1:=Xa ha1;clear h1 ha1
  go_enter Tryz.func52,Tryz.ntmps52
  go_wp2_with fail
  refine(K9 v a n c xs L B _ (Xq hA1 _) hx hn HBS.out (by simp;omega)).mono ?_;rintro e w1 ⟨rfl,hb1⟩;rw[Xq H1];go_wp2
  go_ret
  exact⟨Xm (by rw[hV.out,H1.out];rfl),Xe (Xb (Below.refl _ _) _) hb1⟩
 have H1:=Xa h1;have hA1:=Xa ha1;clear h1 ha1;have hv0:0<=v/\v<=2000:=by
  have h:=H1.out;simp only[Yb,Bool.and_eq_true,decide_eq_true_eq]at h;omega
 obtain⟨m,rfl⟩:=Int.eq_ofNat_of_zero_le hv0.1;have hm:m<=2000:=oM;clear hv0
 go_enter Tryz.func52,Tryz.ntmps52
 go_wp2_with fail
 refine(K9 m a n c xs L B _ (Xq hA1 _) hx hn HBS.out (by simp;omega)).mono ?_;rintro e w1 ⟨rfl,hb1⟩;rw[Xq H1];obtain⟨hc1,hf1⟩:=bcell hb1;have k0:w1.cell? ⟨w.heap.size,0,none⟩=some (.int .i64 m):=by rw[hc1 _ _ sP];simp
 have k1:w1.cell? ⟨w.heap.size,1,none⟩=some (.slice a n c):=by rw[hc1 _ _ sP];simp
 have B1:=Xe (Xb (Below.refl w.heap.size w) _) hb1;have hz1:=hb1.size;simp at hz1;have hA:=Xa (ha.keep (B1.mono hB));have hO1:=Xa (hO.keep B1);have hT1:=Xa (hT.keep B1);have HB1:=Xa B1;clear hc1 hf1 hb1 hA1 B1
 go_wp2_with fail
 refine(Vq m a n c xs L B _ hA hx hn oM hT1).mono ?_;rintro e w2 ⟨rfl,hb2⟩;cases h2:Z1 ⟨m,xs⟩
 ·have H2:=Xa h2
  clear h2;go_wp2
  go_ret
  exact⟨Xm (by rw[hV.out,H1.out,H2.out];rfl),Xe HB1.out hb2⟩
 have H2:=Xa h2;clear h2;have hg:=Xa (Tp H2.out);rw[<-hx.out]at hg;have k0':=(XD hb2 oM).trans k0;have k1':=(XD hb2 oM).trans k1;have hz2:=hb2.size;have hA2:=Xa (hA.keep (hb2.mono oM));have hO2:=Xa (hO1.keep hb2);have HB2:=Xa (Xe HB1.out hb2);clear hb2 k0 k1
 go_wp2_with fail
 refine(Uf m a n c xs L B _ hA2 hx hn (fun x h=>(hlen.out x h).2.1) oM hO2).mono ?_;rintro e w3 ⟨rfl,hb3⟩;cases h3:YL ⟨m,xs⟩
 ·have H3:=Xa h3
  clear h3;go_wp2
  go_ret
  exact⟨Xm (by rw[hV.out,H1.out,H2.out,H3.out];rfl),Xe HB2.out hb3⟩
 have H3:=Xa h3;clear h3;have q0:=(XD hb3 oM).trans k0';have q1:=(XD hb3 oM).trans k1';have hz3:=hb3.size;have hA3:=Xa (hA2.keep (hb3.mono oM));have hO3:=Xa (hO2.keep hb3);have HB3:=Xa (Xe HB2.out hb3);clear hb3 k0' k1'
 go_wp2_with fail
 refine(V8 m a n c xs L B _ hA3 hx hn (fun x h=>⟨(hlen.out x h).1,(hlen.out x h).2.2⟩) oM hg).mono ?_;rintro e w4 ⟨rfl,hb4⟩;cases h4:Jt ⟨m,xs⟩
 ·have H4:=Xa h4
  clear h4;go_wp2
  go_ret
  exact⟨Xm (by rw[hV.out,H1.out,H2.out,H3.out,H4.out];rfl),Xe HB3.out hb4⟩
 have H4:=Xa h4;clear h4;have r0:=(XD hb4 oM).trans q0;have r1:=(XD hb4 oM).trans q1;have hz4:=hb4.size;have hA4:=Xa (hA3.keep (hb4.mono oM));have hO4:=Xa (hO3.keep hb4);have HB4:=Xa (Xe HB3.out hb4);clear hb4 q0 q1
 go_wp2_with fail
 refine(Uh m a n c xs L B _ hA4 hx hn hm (show Xk xs<=1048576 by have:=hs.out;omega) oM hO4 (ZdN H3.out H4.out)).mono ?_;rintro e w5 ⟨rfl,hb5⟩;go_wp2
 go_ret
 exact⟨Xm (by rw[hV.out,H1.out,H2.out,H3.out,H4.out];simp),Xe HB4.out hb5⟩
def XH(xs:List Xi)(k b:Nat):List Nat:=(List.range k).filter fun j=>decide (b∈Xx xs j)
theorem VX{xs:List Xi}(hT:∀x∈xs,∀t∈x.term.targets,0<=t)(b:Nat):∀(k:Nat),k<=xs.length->predsFrom (xs.take k) 0 (b:Int)=Xh (XH xs k b)
 | 0,_=>by simp[predsFrom,XH,Xh]
 | k+1,hk=>by
  have hk':k<xs.length:=hk;rw[List.take_succ_eq_append_getElem hk',Zg,VX hT b k oM];have hl:(xs.take k).length=k:=by simp;omega
  have e:xs[k].term.targets.contains (b:Int)=decide (b∈Xx xs k):=by
   rw[Jo hk',Bool.eq_iff_iff,List.contains_iff_mem,decide_eq_true_eq,List.mem_map];constructor
   ·exact fun h=>⟨_,h,sP⟩
   ·rintro⟨t,ht,et⟩
    have h0:=hT _ (List.getElem_mem hk') t ht;have:t=(b:Int):=oM;rw[<-this];exact ht
  rw[e,hl];unfold XH;rw[List.range_succ,List.filter_append,List.filter_cons,List.filter_nil];by_cases h:b∈Xx xs k
  ·rw[if_pos (by simpa using h),if_pos (by simpa using h)];simp[Xh]
  ·rw[if_neg (by simpa using h),if_neg (by simpa using h)];simp[Xh]
theorem Jm{xs:List Xi}(hT:∀x∈xs,∀t∈x.term.targets,0<=t)(b:Nat):predsFrom xs 0 (b:Int)=Xh (XH xs xs.length b):=by
 have:=VX hT b xs.length (Nat.le_refl _);rwa[List.take_length]at this
theorem Kn{xs:List Xi}{n b s:Nat}:s∈XH xs n b↔s<n/\b∈Xx xs s:=by
 unfold XH;rw[List.mem_filter,List.mem_range,decide_eq_true_eq]
theorem VL{xs:List Xi}{n b:Nat}:(XH xs n b).length<=n:=Nat.le_trans (List.length_filter_le _ _) sP
def Y7(xs:List Xi):(Nat->Nat) × List Nat:=dfsV (Xx xs) xs.length 0 (fun _=>0,[])
def Zn(xs:List Xi):List Nat:=(Y7 xs).2.reverse
structure Up(xs:List Xi):Prop where
 n1:1<=xs.length
 n2:xs.length<=1000
 tgt:∀x∈xs,∀t∈x.term.targets,0<=t/\t<xs.length
 ok:ZaN xs xs.length
theorem Ke{v:Int}{xs:List Xi}(h:XQ ⟨v,xs⟩=true):Up xs:=by
 simp only[XQ,Bool.and_eq_true]at h;obtain⟨⟨⟨⟨h1,h2⟩,_⟩,_⟩,_⟩:=h;simp only[Yb,Bool.and_eq_true,decide_eq_true_eq]at h1;have ht:=Tp h2;exact⟨h1.1.1.2,h1.1.2,fun x hx=>(ht x hx).1,ht⟩
theorem Up.tg{xs:List Xi}(h:Up xs):∀b,b<xs.length->∀t∈Xx xs b,t<xs.length:=fun b hb t ht=>by
 rw[Jo hb]at ht;obtain⟨z,hz,rfl⟩:=List.mem_map.1 ht;have:=h.tgt _ (List.getElem_mem hb) z hz;omega
theorem Up.re{xs:List Xi}(h:Up xs):∀x,Re (Xx xs) x->x<xs.length:=fun x hx=>by
 induction hx with
 | root=>exact h.n1
 | step _ ht ih=>exact h.tg _ ih _ ht
theorem Up.top{xs:List Xi}(h:Up xs):(∀x,x∈Zn xs↔Re (Xx xs) x)/\(∀x,Xf (Y7 xs).1 x=true↔Re (Xx xs) x)/\(Zn xs).Nodup/\∀x a,JF (Xx xs) a x->a≠x->Bef (Zn xs) a x:=by
 obtain⟨h1,h2,h3,h4⟩:=ZgE h.tg h.n1 (Nat.le_refl xs.length);refine⟨fun x=>?_,h2,?_,fun x a hd hne=>Zby (h4 x a hd hne)⟩
 ·show x∈(Y7 xs).2.reverse↔_
  rw[List.mem_reverse];exact h1 x
 ·show((Y7 xs).2.reverse).Nodup
  exact List.pairwise_reverse.2 (h3.imp (fun hne e=>hne e.symm))
theorem Up.av{xs:List Xi}(h:Up xs){Ws:Nat->Nat->Nat}(hw:∀b,b<xs.length->∀x,x<xs.length->(Xf (Ws b) x=true↔Sp (UE xs.length) (WU xs.length) (·∈Zn xs) (fun b=>((List.range xs.length).map (XH xs xs.length)).getD b []) b x)):∀b,b<xs.length->∀x,x<xs.length->(Xf (Ws b) x=true↔Av (Xx xs) x b):=fun b hb x hx=>by
 rw[hw b hb x hx];refine ZiK (n:=xs.length) (fun b x hx=>Zg5 hx) (fun b x _ hb=>ZgR hb) (fun b=>h.top.1 b) h.re (fun b s hb=>?_) hx;have e:((List.range xs.length).map (XH xs xs.length)).getD b []=XH xs xs.length b:=by simp[hb]
 rw[e];exact Kn
theorem Up.idm{xs:List Xi}(h:Up xs){Ws:Nat->Nat->Nat}(hw:∀b,b<xs.length->∀x,x<xs.length->(Xf (Ws b) x=true↔Sp (UE xs.length) (WU xs.length) (·∈Zn xs) (fun b=>((List.range xs.length).map (XH xs xs.length)).getD b []) b x)):Y1 (Xx xs) xs.length ((List.range xs.length).map (T1 Ws (Zn xs) (Zn xs).length)):=U4 h.top.2.2.1 h.top.1 h.re h.top.2.2.2 (h.av hw)
theorem Up.ord_len{xs:List Xi}(h:Up xs):0<(Zn xs).length/\(Zn xs).length<=xs.length/\∀b∈Zn xs,b<xs.length :=
 ⟨List.length_pos_of_mem ((h.top.1 0).2 Re.root),YB h.top.2.2.1 (fun x hx=>h.re x ((h.top.1 x).1 hx)),fun b hb=>h.re b ((h.top.1 b).1 hb)⟩
theorem ZfJ{tg:Nat->List Nat}{n:Nat}{P:List Int}(h:Y1 tg n P)(hn:∀x,Re tg x->x<n):∀p∈P,-1<=p/\p<n:=fun p hp=>by
 obtain⟨i,hi,rfl⟩:=List.getElem_of_mem hp;have e:P.getD i 0=P[i]:=by simp[hi]
 rw[<-e];rcases h.get i (by rw[<-h.len];exact hi)with⟨a,ha,ea⟩ | ⟨_,ea⟩
 ·have:=hn a ha.dom.ra
  omega
 ·omega
structure ZZ(V:Nat)(xs:List Xi):Prop where
 okf:Up xs
 vle:V<=2000
 ops:∀x∈xs,∀y∈x.instrs,1<=y.op/\y.op<=13
 kind:∀x∈xs,1<=x.term.kind/\x.term.kind<=3
 rdi:∀x∈xs,∀y∈x.instrs,∀v∈rdI y,0<=v/\v<V
 wri:∀x∈xs,∀y∈x.instrs,∀v∈writesI y,0<=v/\v<V
 rdt:∀x∈xs,∀v∈rdT x.term,0<=v/\v<V
 phd:∀x∈xs,∀p∈x.phis,0<=p.dst/\p.dst<V
 pha:∀t (h:t<xs.length),∀p∈xs[t].phis,p.args.length=(predsFrom xs 0 (t:Int)).length/\∀a∈p.args,0<=a/\a<V
 lens:∀x∈xs,x.instrs.length<=4000/\x.phis.length<=4000
theorem Tj{u:Bool}{x lo hi:Int}(h:JI u x lo hi=true)(hu:u=true):lo<=x/\x<hi:=by
 subst hu;simpa [JI]using h
theorem Zbn{xs:List Xi}{x:Xi}(h:x∈xs):Kj x<=Xo xs:=by
 unfold Xo
 induction xs with
 | nil=>cases h
 | cons y ys ih =>
  rcases List.mem_cons.1 h with rfl | h
  ·simp
  ·have:=ih h;simp;omega
theorem ZeH:∀ps:List Ph,ps.length<=XK ps
 | []=>Nat.le_refl _
 | p::ps=>by have:=ZeH ps;simp[XK]at *;omega
theorem Yy{V:Nat}{xs:List Xi}(h:XQ ⟨(V:Int),xs⟩=true):ZZ V xs:=by
 have hok:=Ke h;simp only[XQ,Bool.and_eq_true]at h;obtain⟨⟨⟨⟨h1,h2⟩,h3⟩,h4⟩,_⟩:=h;simp only[Yb,Bool.and_eq_true,decide_eq_true_eq]at h1;have hI:∀x∈xs,∀y∈x.instrs,Ya (V:Int) 10 y=true:=fun x hx y hy=>List.all_eq_true.1 (List.all_eq_true.1 h3 x hx) y hy
 have hT:∀x∈xs,YI (V:Int) 1 xs.length x.term=true:=fun x hx=>by
  have:=List.all_eq_true.1 h2 x hx;simp only[Zm,Bool.and_eq_true]at this;exact this.1
 have hP:=(YG Zh ⟨(V:Int),xs⟩ xs 0).1 h4;refine⟨hok,oM,fun x hx y hy=>?_,fun x hx=>?_,fun x hx y hy v hv=>?_,fun x hx y hy v hv=>?_,fun x hx v hv=>?_,fun x hx p hp=>?_,fun t ht p hp=>?_,fun x hx=>?_⟩
 ·have:=hI x hx y hy
  simp only[Ya,Bool.and_eq_true,decide_eq_true_eq]at this;omega
 ·have:=hT x hx
  simp only[YI,Bool.and_eq_true,decide_eq_true_eq]at this;omega
 ·have:=hI x hx y hy
  simp only[Ya,Bool.and_eq_true]at this;obtain⟨⟨⟨⟨_,_⟩,ha⟩,hb⟩,_⟩:=this;unfold rdI at hv;rcases List.mem_append.1 hv with hv | hv
  ·by_cases e:aB y.op=true
   ·rw[if_pos e]at hv
    have e2:v=y.a:=by simpa using hv
    rw[e2];exact Tj ha e
   ·rw[if_neg e]at hv;cases hv
  ·by_cases e:bB y.op=true
   ·rw[if_pos e]at hv
    have e2:v=y.b:=by simpa using hv
    rw[e2];exact Tj hb e
   ·rw[if_neg e]at hv;cases hv
 ·have:=hI x hx y hy
  simp only[Ya,Bool.and_eq_true]at this;obtain⟨⟨⟨⟨_,hd⟩,_⟩,_⟩,_⟩:=this;unfold writesI at hv;by_cases e:dB y.op=true
  ·rw[if_pos e]at hv
   have e2:v=y.dst:=by simpa using hv
   rw[e2];exact Tj hd e
  ·rw[if_neg e]at hv;cases hv
 ·have:=hT x hx
  simp only[YI,Bool.and_eq_true]at this;obtain⟨⟨⟨_,ha⟩,_⟩,_⟩:=this;unfold rdT at hv;by_cases e:(x.term.kind != 1)=true
  ·rw[if_pos e]at hv
   have e2:v=x.term.a:=by simpa using hv
   rw[e2];exact Tj ha e
  ·rw[if_neg e]at hv;cases hv
 ·obtain⟨t,ht,rfl⟩:=List.getElem_of_mem hx
  have:=List.all_eq_true.1 (hP t ht) p hp;simp only[Zh,Bool.and_eq_true]at this;exact Tj this.1 rfl
 ·have:=List.all_eq_true.1 (hP t ht) p hp
  simp only[Zh,Zw,Bool.and_eq_true,decide_eq_true_eq,List.all_eq_true]at this;rw[Nat.zero_add]at this;exact⟨this.2.1.2,fun a ha=>this.2.2 a ha⟩
 ·have:=Zbn hx
  have h5:Xo xs<=4000:=h1.2;have:=ZeH x.phis;unfold Kj at *;omega
def Xt(l:List Int):List Nat:=l.map Int.toNat
theorem Jf{l:List Int}(h:∀v∈l,0<=v):(Xt l).map Int.ofNat=l:=by
 unfold Xt;rw[List.map_map]
 conv=>rhs;rw[<-List.map_id l]
 apply List.map_congr_left;intro v hv;have:=h v hv;simp[Function.comp];omega
theorem Yq{l:List Int}(h:∀v∈l,0<=v){x:Nat}:x∈Xt l↔(x:Int)∈l:=by
 unfold Xt;rw[List.mem_map];constructor
 ·rintro⟨v,hv,rfl⟩
  have:=h v hv;rw[show((v.toNat:Nat):Int)=v by omega];exact hv
 ·intro hx
  exact⟨_,hx,oM⟩
def phT(xs:List Xi)(t:Nat)(ps:List Ph):List (Nat × Nat):=ps.flatMap fun p=>(XH xs xs.length t).zip (Xt p.args)
def phB(xs:List Xi)(t:Nat):List (Nat × Nat):=(xs[t]?).elim [] fun x=>phT xs t x.phis
def Uj(xs:List Xi)(k:Nat):List (Nat × Nat):=(List.range k).flatMap (phB xs)
end Go.Proofs.YthgikffcdgpgiaaGreatDoor
