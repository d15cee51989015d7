import Derived.Deep.QuietTactic
import Derived.Test.YtbofmlmdgkblkaaDoorW8
import Derived.Test.YtbofmlmdgkblkaaDoorID1
import Derived.Laws.CopyOwn
namespace Go.Proofs.YtbofmlmdgkblkaaDoor
set_option maxHeartbeats 4000000
open Go.RowKit
def Cnt(w:World)(G m:Nat)(D:List Int):Prop:=∃f,w.rowIs G 2 m f/\∀i,i<m->f i=.int .i64 (countEq D i:Nat)
theorem Cnt.below{w w':World}{G m:Nat}{D:List Int}(h:Cnt w G m D)(k:Below w.heap.size w w'):Cnt w' G m D:=by
 obtain⟨f,h1,h2⟩:=h;exact⟨f,h1.of_block (k.block _ h1.lt),h2⟩
theorem Cnt.lt{w:World}{G m:Nat}{D:List Int}(h:Cnt w G m D):G<w.heap.size:=by
 obtain⟨f,h1,_⟩:=h;exact h1.lt
theorem Cnt.cell{w:World}{G m:Nat}{D:List Int}(h:Cnt w G m D){t:Nat}(ht:t<m):w.cell? ⟨G,t,none⟩=some (.int .i64 (countEq D t:Nat))/\w.frozen? ⟨G,t,none⟩=false:=by
 obtain⟨f,h1,h2⟩:=h;exact⟨by rw[h1.cell ht,h2 t ht],h1.frozen t⟩
theorem Zan(D:List Int)(x v:Int):countEq (D++[x]) v=countEq D v+if x=v then 1 else 0:=by
 simp only[countEq,List.filter_append,List.length_append];by_cases h:x=v<;>simp[h]
theorem Ve(D:List Int)(v:Int):countEq D v<=D.length:=List.length_filter_le _ _
theorem Cnt.step{w:World}{G m:Nat}{D:List Int}(h:Cnt w G m D){t:Nat}{x:Int}(hx:x=((countEq D t:Nat):Int)+1):Cnt (w.setCell ⟨G,t,none⟩ (.int .i64 x)) G m (D++[(t:Int)]):=by
 obtain⟨f,h1,h2⟩:=h;refine⟨_,h1.set t _,fun i hi=>?_⟩;rw[Zan];by_cases e:i=t
 ·subst e
  simp[hx]
 ·have e2:¬(t:Int)=(i:Int):=by omega
  simp only[e,if_false,e2,Nat.add_zero];exact h2 i hi
theorem Cnt.born(w:World)(m:Nat):Cnt (w.alloc (.cells (madeCells #[.int .i64 0] m) 2)) w.heap.size m []:=⟨_,World.rowIs_made _ _ _ _,fun i _=>by simp[countEq]⟩
def Zhr(xs:List Xg)(m:Nat):Prop:=∀x∈xs,(∀p∈x.phis,0<=p.dst/\p.dst<(m:Int))/\∀y∈x.instrs,1<=y.op/\y.op<=10/\(dB y.op=true->0<=y.dst/\y.dst<(m:Int))
theorem UV(m:Nat)(a:Option Addr)(n c:Nat)(xs:List Xg)(L B:Nat)(w:World)(ha:Hid (Xy w L B a xs))(hx:Hid (n=xs.length))(hn:n<=1048576)(hm:m<=2000)(hs:Hid (X7 xs<=1048576))(hB:B<=w.heap.size)(hT:Hid (TV w))(hd:Hid (Zhr xs m)) :
 Calls Tryd.prog 35 #[.agg #[.int .i64 m,.slice a n c]] w fun e w'=>e=.returned (.bool (Ts ⟨m,xs⟩))/\Below w.heap.size w w':=by
 have hmk:=run_make_row' (P:=Tryd.prog) 40 2 (.int .i64 0) 8 Tryd.underlying40 Tryd.info2 rfl .i64 .i64 m (by omega) (by omega)
 go_enter Tryd.func35,Tryd.ntmps35
 go_wp2
 go_loopw [18] (fun i wr=>∃k:Nat,k<=n/\i=.int .i64 k/\Below w.heap.size w wr/\Hid (Cnt wr (w.heap.size+1) m (blksDefs (xs.take k)))) (fun i _=>n-(intOf i).toNat)
 case atStart=>exact⟨0,Nat.zero_le _,rfl,Xb (Xb (Below.refl _ _) _) _,by have:=Cnt.born (w.alloc (.cells #[.int .i64 m,.slice a n c] 25)) m;rw[World.size_alloc]at this;exact this⟩
 case round =>
  obtain⟨k,hk,rfl,hw,hct⟩:=hrel;by_cases hlt:k<n
  ·have hkx:k<xs.length:=by have:=hx.out;omega
   obtain⟨b,o,rfl,⟨_,hbB⟩,hc⟩:=ha.out k hkx;have HC:=Xa hc;have hnx:Hid (blksDefs (xs.take (k+1))=blksDefs (xs.take k)++(Xu xs[k].phis++Xw xs[k].instrs)):=by
    show _=_;rw[XF _ _ hkx,Ta];rfl
   have hbd:(blksDefs (xs.take k)).length+(xs[k].phis.length+Jr xs[k].phis+xs[k].instrs.length)<=1048576:=by
    have h1:=TH xs (k+1);rw[XF _ _ hkx,Uf]at h1;have h2:=JY (xs.take k);have h3:=hs.out;have h4:ZH xs[k]=xs[k].phis.length+Jr xs[k].phis+xs[k].instrs.length:=rfl;omega
   have hpl:xs[k].phis.length<=1048576:=by omega
   have hil:xs[k].instrs.length<=1048576:=by omega
   obtain⟨hd1,hd2⟩:=hd.out _ (List.getElem_mem hkx);have HD1:=Xa hd1;have HD2:=Xa hd2;obtain⟨pa,pc,ia,ic,e0,e1,⟨e2,e3,e4,e5⟩,hp,hi⟩:=hc.keep (hw.mono hB) (by omega);have HP:=Xa hp;have HI:=Xa hi;have hct2:=Xa (hct.below (Xb (Below.refl wr.heap.size wr) (.cells #[.slice pa xs[k].phis.length pc,.slice ia xs[k].instrs.length ic,.int .i64 xs[k].term.kind,.int .i64 xs[k].term.a,.int .i64 xs[k].term.to,.int .i64 xs[k].term.els] 39)));have hGz:=hct.lt;clear hc HC hd1 hd2 hp hi hct;generalize hX:xs[k]=X at *;clear hX;generalize blksDefs (xs.take k)=D at *;have hwz:=hw.size;go_wp2;generalize hM:wr.heap.size=M at *;have HM:=Xa hM;clear hM e0 e1 e2 e3 e4 e5
   go_loopw [25] (fun i wi=>∃j:Nat,j<=X.phis.length/\i=.int .i64 j/\Below w.heap.size w wi/\M<wi.heap.size/\wi.cell? ⟨M,1,none⟩=some (.slice ia X.instrs.length ic)/\Hid (Cnt wi (w.heap.size+1) m (D++Xu (X.phis.take j)))/\Hid (Ji wi L B pa X.phis)/\Hid (YF wi L B ia X.instrs)) (fun i _=>X.phis.length-(intOf i).toNat)
   case atStart =>
    have hMM:=Xv HM;subst hMM;exact⟨0,Nat.zero_le _,rfl,Xb hw _,by simp,by simp,by show Cnt _ _ _ _;simpa [Xu]using hct2.out,HP.keep (Xb (Below.refl wr.heap.size wr) _ |>.mono (by omega)),HI.keep (Xb (Below.refl wr.heap.size wr) _ |>.mono (by omega))⟩
   case round =>
    clear hct2 HP HI hw HM;obtain⟨j,hj,rfl,hwi,hszi,hci,hcti,hpi,hii⟩:=hrel;have hwiz:=hwi.size;by_cases hjt:j<X.phis.length
    ·obtain⟨b',o',rfl,⟨_,hbB'⟩,aa,cc,g0,g1,_⟩:=hpi.out j hjt
     have h3:Hid (D++Xu (X.phis.take (j+1))=(D++Xu (X.phis.take j))++[X.phis[j].dst]):=by show _=_;rw[XF _ _ hjt,UB,List.append_assoc]
     have hl:(D++Xu (X.phis.take j)).length<=1048576:=by simp[Xu];omega
     obtain⟨q0,q1⟩:=HD1.out _ (List.getElem_mem hjt);generalize X.phis[j]=P at *;generalize D++Xu (X.phis.take j)=D1 at *;obtain⟨d,ar⟩:=P;dsimp only at q0 q1 g0 g1 h3;obtain⟨t,rfl⟩:=Int.eq_ofNat_of_zero_le q0;have htm:t<m:=by omega
     have hc2:=hcti.below (Xb (Below.refl wr.heap.size wr) (.cells #[.int .i64 t,.slice aa ar.length cc] 42));obtain⟨k0,k1⟩:=hc2.cell htm;have hcb:=Ve D1 t;have HC2:=Xa hc2;clear hc2;generalize hQ:countEq D1 t=Q at *;have HQ:=Xa hQ;clear hQ;go_wp2;refine⟨⟨j+1,by omega,by go_num,(Xb hwi _).setCell (by dsimp only;omega) _,by rw[Xd];simp;omega,?_,?_,?_,?_⟩,by simp[intOf];omega⟩
     ·rw[World.cell?_setCell_other _ _ _ _ (by intro e;cases e;omega)]
      exact((Xb (Below.refl wr.heap.size wr) _).cell (p:=⟨M,1,none⟩) hszi).trans hci
     ·rw[h3.out]
      exact HC2.step (by rw[HQ.out])
     ·exact hpi.keepS ((Yp.of_below (Xb (Below.refl wr.heap.size wr) _ |>.mono (by omega))).setCell (Or.inr (by dsimp only;omega)) _)
     ·exact hii.keepS ((Yp.of_below (Xb (Below.refl wr.heap.size wr) _ |>.mono (by omega))).setCell (Or.inr (by dsimp only;omega)) _)
    ·have hE:=Xa (List.take_of_length_le (l:=X.phis) (i:=j) (by omega))
     go_wp2
     go_loopw [40] (fun i wi=>∃j:Nat,j<=X.instrs.length/\i=.int .i64 j/\Below w.heap.size w wi/\M<wi.heap.size/\Hid (Cnt wi (w.heap.size+1) m (D++Xu X.phis++Xw (X.instrs.take j)))/\Hid (YF wi L B ia X.instrs)) (fun i _=>X.instrs.length-(intOf i).toNat)
     case atStart=>exact⟨0,Nat.zero_le _,rfl,hwi,hszi,by have:=hcti.out;rw[hE.out]at this;show Cnt _ _ _ _;simpa [Xw]using this,hii.out⟩
     case round =>
      clear hwi hszi hci hcti hpi hii hE hwiz;obtain⟨j,hj,rfl,hwi,hszi,hcti,hii⟩:=hrel;have hwiz:=hwi.size;by_cases hjt:j<X.instrs.length
      ·obtain⟨b',o',rfl,⟨_,hbB'⟩,g0,g1,g2,g3,g4⟩:=hii.out j hjt
       have h3:Hid (D++Xu X.phis++Xw (X.instrs.take (j+1))=(D++Xu X.phis++Xw (X.instrs.take j))++(if dB X.instrs[j].op then [X.instrs[j].dst]else [])):=by show _=_;rw[XF _ _ hjt,TS,<-List.append_assoc]
       have hl:(D++Xu X.phis++Xw (X.instrs.take j)).length<=1048576:=by have:=Kz (X.instrs.take j);simp[Xu]at this |-;omega
       obtain⟨q0,q1,q2⟩:=HD2.out _ (List.getElem_mem hjt);generalize X.instrs[j]=P at *;generalize D++Xu X.phis++Xw (X.instrs.take j)=D1 at *;obtain⟨op,d,pA,pB,pI⟩:=P;dsimp only at q0 q1 q2 g0 g1 g2 g3 g4 h3;obtain⟨p,rfl⟩:=Int.eq_ofNat_of_zero_le (show 0<=op by omega);have hT2:=hT.keep (Xb hwi (.cells #[.int .i64 p,.int .i64 d,.int .i64 pA,.int .i64 pB,.int .i64 pI] 44));obtain⟨s,_,c1,_,_,_⟩:=hT2.2 p (by omega) (by omega);have hT0:0<wr.heap.size:=by omega
       have hc2:=hcti.below (Xb (Below.refl wr.heap.size wr) (.cells #[.int .i64 p,.int .i64 d,.int .i64 pA,.int .i64 pB,.int .i64 pI] 44));clear hT2;cases hdb:dB p
       ·rw[hdb]at c1
        have HDB:=Xa hdb;have HC2:=Xa hc2;clear hdb hc2 q2;go_wp2;refine⟨⟨j+1,by omega,by go_num,Xb hwi _,by simp;omega,?_,?_⟩,by simp[intOf];omega⟩
        ·rw[h3.out,HDB.out]
         show Cnt _ _ _ _;simpa using HC2.out
        ·exact hii.keepS (Yp.of_below (Xb (Below.refl wr.heap.size wr) _ |>.mono (by omega)))
       ·obtain⟨q3,q4⟩:=q2 hdb
        rw[hdb]at c1;have HDB:=Xa hdb;obtain⟨t,rfl⟩:=Int.eq_ofNat_of_zero_le q3;have htm:t<m:=by omega
        obtain⟨k0,k1⟩:=hc2.cell htm;have hcb:=Ve D1 t;have HC2:=Xa hc2;clear hdb hc2 q2;generalize hQ:countEq D1 t=Q at *;have HQ:=Xa hQ;clear hQ;go_wp2;refine⟨⟨j+1,by omega,by go_num,(Xb hwi _).setCell (by dsimp only;omega) _,by rw[Xd];simp;omega,?_,?_⟩,by simp[intOf];omega⟩
        ·rw[h3.out,HDB.out,if_pos rfl]
         exact HC2.step (by rw[HQ.out])
        ·exact hii.keepS ((Yp.of_below (Xb (Below.refl wr.heap.size wr) _ |>.mono (by omega))).setCell (Or.inr (by dsimp only;omega)) _)
      ·have hE:=Xa (List.take_of_length_le (l:=X.instrs) (i:=j) (by omega))
       go_wp2;exact⟨⟨k+1,by omega,by go_num,hwi,by have:=hcti.out;rw[hE.out]at this;rw[hnx.out,<-List.append_assoc];exact this⟩,by simp[intOf];omega⟩
  ·have hE:=Xa (List.take_of_length_le (l:=xs) (i:=k) (by have:=hx.out;omega))
   have hct2:=hct.out;rw[hE.out]at hct2;have HCT:=Xa hct2;clear hct2 hct;go_wp2
   go_loop [60] (fun i=>∃j:Nat,j<=m/\i=.int .i64 j/\Hid (∀q,q<j->countEq (blksDefs xs) (q:Nat)=1)) (fun i=>m-(intOf i).toNat)
   case atStart=>exact⟨0,Nat.zero_le _,rfl,fun q hq=>absurd hq (by omega)⟩
   case round =>
    obtain⟨j,hj,rfl,hall⟩:=hrel;by_cases hjt:j<m
    ·obtain⟨k0,k1⟩:=HCT.cell hjt
     generalize hQ:countEq (blksDefs xs) (j:Nat)=Q at *;have HQ:=Xa hQ;clear hQ k1;by_cases h1:Q=1
     ·subst h1
      go_wp2
      go_round
      case rel=>exact⟨j+1,by omega,by go_num,fun q hq=>if e:q=j then by subst e;exact HQ.out else hall.out q (by omega)⟩
      case measure=>simp[intOf];omega
     ·have h2:((Q:Int) != 1)=true:=by rw[bne_iff_ne];omega
      have H1:=Xa h1;clear h1;go_wp2
      go_ret
      exact⟨Xm (by
       symm;unfold Ts;rw[List.all_eq_false];exact⟨j,by simpa using hjt,by simp only[HQ.out,beq_iff_eq];exact H1.out⟩),hw⟩
    ·go_wp2
     go_ret
     exact⟨Xm (by
      symm;unfold Ts;rw[List.all_eq_true];intro q hq;rw[beq_iff_eq];exact hall.out q (by simp at hq;omega)),hw⟩
end Go.Proofs.YtbofmlmdgkblkaaDoor
namespace Go.Proofs.YtbofmlmdgkblkaaDoor
set_option maxHeartbeats 2000000
open Go.RowKit
def Zb1(xs:List Xg)(n:Nat):Prop:=∀x∈xs,(∀t∈x.term.targets,0<=t/\t<(n:Int))/\x.term.targets.Nodup
def Yc(xs:List Xg)(k:Nat)(ts:List Int)(i:Nat):List Int:=predsFrom (xs.take k) 0 i++(if ts.contains (i:Int)then [(k:Int)]else [])
theorem ZX(xs:List Xg)(k i:Nat):Yc xs k [] i=predsFrom (xs.take k) 0 i:=by simp[Yc]
theorem Ky(xs:List Xg)(k i:Nat)(hk:k<xs.length):Yc xs k xs[k].term.targets i=predsFrom (xs.take (k+1)) 0 i:=by
 unfold Yc;rw[XF _ _ hk,Z4];simp[Nat.min_eq_left (Nat.le_of_lt hk)]
theorem Tb(xs:List Xg)(k i:Nat)(ts:List Int)(t:Nat)(h:(t:Int) ∉ ts):Yc xs k (ts++[(t:Int)]) i=if i=t then Yc xs k ts t++[(k:Int)]else Yc xs k ts i:=by
 unfold Yc;by_cases e:i=t
 ·subst e
  simp[h]
 ·have h1:(ts++[(t:Int)]).contains (i:Int)=ts.contains (i:Int):=by
   rw[Bool.eq_iff_iff];simp only[List.contains_iff_mem,List.mem_append,List.mem_singleton];constructor
   ·rintro(h | h)
    ·exact h
    ·omega
   ·exact Or.inl
  rw[if_neg e,h1]
theorem TO(xs:List Xg)(k i:Nat)(ts:List Int)(h:k<=xs.length):(Yc xs k ts i).length<=k+1:=by
 unfold Yc;have:=YP (i:Int) (xs.take k) 0;simp only[List.length_take]at this;rw[List.length_append];split<;>simp<;>omega
theorem Ur(v:Int)(a:Option Addr)(n c:Nat)(xs:List Xg)(L B:Nat)(w:World)(ha:Hid (Xy w L B a xs))(hx:Hid (n=xs.length))(hn:n<=1048576)(hB:B<=w.heap.size)(hg:Hid (Zb1 xs n)) :
 Calls Tryd.prog 60 #[.agg #[.int .i64 v,.slice a n c]] w fun e w'=>∃a' c',e=.returned (.slice a' n c')/\Below w.heap.size w w'/\ZK w' w.heap.size w'.heap.size a' ((List.range n).map fun i:Nat=>predsFrom xs 0 (i:Int)):=by
 obtain⟨i0,hi0,hz0,hz1,hz2⟩:=info_parts Tryd.info2';have hmk:=run_make_row' (P:=Tryd.prog) 83 40 (.slice none 0 0) 24 Tryd.underlying83 Tryd.info45 rfl .i64 .i64 n (by omega) (by omega)
 go_enter Tryd.func60,Tryd.ntmps60
 go_wp2
 go_loopw [15] (fun i wr=>∃k:Nat,k<=n/\i=.int .i64 k/\Below w.heap.size w wr/\Hid (∃U,YK wr (w.heap.size+1) n (Yc xs k []) U)) (fun i _=>n-(intOf i).toNat)
 case atStart=>exact⟨0,Nat.zero_le _,rfl,Xb (Xb (Below.refl _ _) _) _,⟨_,by have:=YK.born (w.alloc (.cells #[.int .i64 v,.slice a n c] 25)) n;rw[World.size_alloc]at this;exact this⟩⟩
 case round =>
  obtain⟨k,hk,rfl,hw,hrw⟩:=hrel;by_cases hlt:k<n
  ·have hkx:k<xs.length:=by have:=hx.out;omega
   obtain⟨b,o,rfl,⟨_,hbB⟩,hc⟩:=ha.out k hkx;obtain⟨pa,pc,ia,ic,e0,e1,⟨e2,e3,e4,e5⟩,_,_⟩:=hc.keep (hw.mono hB) (by omega);have hwh:=Xa (fun i=>Ky xs k i hkx);obtain⟨hg1,hg2⟩:=hg.out _ (List.getElem_mem hkx);have HG1:=Xa hg1;have HG2:=Xa hg2;clear hc hg1 hg2;generalize xs[k]=X at *
   go_wp2_with fail
   refine(ZW X.term _).mono ?_;rintro e w2 ⟨a1,c1,rfl,hb2,hi2⟩;have hb3:=Xj (Xb (Below.refl wr.heap.size wr) _) hb2;have hz3:=hb2.size;simp at hz3;have hz4:wr.heap.size<w2.heap.size:=by omega
   have HI:=Xa hi2;have hGlt:w.heap.size+1<wr.heap.size:=by obtain⟨U,hU⟩:=hrw.out;exact hU.1.lt
   have HR:Hid (∃U,YK w2 (w.heap.size+1) n (Yc xs k []) U/\∀i g,i<n->(U i).ownBlock=some g->g<=wr.heap.size\/w2.heap.size<=g):=by
    obtain⟨U,hU⟩:=hrw.out;exact⟨U,hU.below hb3,fun i g hi hg=>by have:=((hU.2.1 i hi).lt g hg).2;omega⟩
   have HW:=Xa (Xj hw hb3);have htl:X.term.targets.length<=2:=by unfold XZ.targets;split<;>(try split)<;>simp
   generalize hT:X.term.targets=ts at *;clear hT hi2 hrw e0 e1 e2 e3 e4 e5 hw;simp only[World.size_alloc]at HI;generalize hM:wr.heap.size=M at *;clear hM;go_wp2
   go_loopw [24] (fun i wi=>∃j:Nat,j<=ts.length/\i=.int .i64 j/\Below w.heap.size w wi/\w2.heap.size<=wi.heap.size/\Hid (Xe wi (M+1) w2.heap.size a1 ts)/\Hid (∃U,YK wi (w.heap.size+1) n (Yc xs k (ts.take j)) U/\∀i g,i<n->(U i).ownBlock=some g->g<=M\/w2.heap.size<=g)) (fun i _=>ts.length-(intOf i).toNat)
   case atStart=>exact⟨0,Nat.zero_le _,rfl,HW.out,Nat.le_refl _,HI.out,HR.out⟩
   case round =>
    obtain⟨j,hj,rfl,hwi,hszi,hii,hri⟩:=hrel;by_cases hjt:j<ts.length
    ·obtain⟨b',o',rfl,_,hcj⟩:=hii.out j hjt
     obtain⟨ht0,ht1⟩:=HG1.out _ (List.getElem_mem hjt);have hnd:Hid (ts[j] ∉ ts.take j):=by
      intro hm;obtain⟨m,hm1,hm2⟩:=List.getElem_of_mem hm;simp only[List.length_take]at hm1;rw[List.getElem_take]at hm2;have:=(List.getElem_inj HG2.out).1 hm2;omega
     have hts:Hid (ts.take (j+1)=ts.take j++[ts[j]]):=XF _ _ hjt;obtain⟨U,hU,hav⟩:=hri.out;have HAV:=Xa hav;clear hav;obtain⟨t,htt⟩:=Int.eq_ofNat_of_zero_le ht0;generalize ts[j]=T at *;subst htt;have htn:t<n:=by omega
     have hcU:=hU.1.cell htn;have hfU:=hU.1.frozen t;have hpl:=TO xs k t (ts.take j) (by have:=hx.out;omega);have HU:=Xa hU;clear hU hri
     go_wp2_with (at_builtin;refine wpList_append_own_at _ rfl _ _ 40 rfl (w.heap.size+1+1) 2 i0 (.int .i64 0) 1 8 Tryd.underlying40 hi0 hz0 hz1 hz2 rfl (by decide) _ _ _ rfl ((HU.alloc _).2.1 t htn) ⟨wr.heap.size,0,none⟩ 1 1 [.int .i64 k] rfl rfl ?c1 ?c2 ?c3 ?c4 ?c5 ?_)
     case c1 =>
      intro j u hj
      match j,hj with
      | 0,hj=>simp at hj;subst hj;simp[Addr.add]
     case c2=>intro u hu;simp at hu;subst hu;rfl
     case c3=>unfold maxLen;omega
     case c4=>omega
     case c5=>have:=HU.1.lt;simp;omega
     intro v1 w1 hown1 hgrow1 _ hat1;obtain⟨av,cv,hv,_⟩:=Xn (xs:=Yc xs k (ts.take j) t++[(k:Int)]) (by rw[YO];exact hown1);have hst:=Xa ((HU.alloc (.cells #[.int .i64 k] 2)).step htn k v1 hgrow1 hown1 (by rw[World.size_alloc];exact hat1));have hbG:w1.heap[w.heap.size+1]?=(wr.alloc (.cells #[.int .i64 k] 2)).heap[w.heap.size+1]?:=Zq hgrow1 ((HU.alloc (.cells #[.int .i64 k] 2)).2.1 t htn) (by omega) (by have:=HU.1.lt;simp;omega);have hbel:=Xa (XG (Xb hwi (.cells #[.int .i64 k] 2)) hgrow1 ((HU.alloc (.cells #[.int .i64 k] 2)).2.1 t htn) (by omega) (by have:=hwi.size;simp;omega));have hcG:w1.cell? ⟨w.heap.size+1,t,none⟩=some (U t):=by rw[Xc hbG];exact((HU.alloc (.cells #[.int .i64 k] 2)).1).cell htn
     have hfG:w1.frozen? ⟨w.heap.size+1,t,none⟩=false:=by rw[World.frozen?_of_block (w:=wr.alloc (.cells #[.int .i64 k] 2)) (a:=⟨w.heap.size+1,t,none⟩) hbG];exact((HU.alloc (.cells #[.int .i64 k] 2)).1).frozen t
     have hgz:=hgrow1.size;simp at hgz;have hsm:Yp (M+1) w2.heap.size wr w1:=fun q q1 q2=>(hgrow1.block q (by simp;omega) (fun e=>by have:=HAV.out t q htn e.symm;omega)).trans (Below.heap_alloc _ _ _ (by omega))
     have HSM:=Xa hsm;have hii2:=Xa (hii.keepS hsm);have HAT:=Xa hat1;have HV:=Xa hv;clear hsm;clear hown1 hgrow1 hat1 hbG hcU hfU;rw[hv];clear hv;go_wp2;have hv2:=HV.out;rw[List.length_append,List.length_cons,List.length_nil,Nat.zero_add]at hv2;rw[<-hv2];refine⟨⟨j+1,by omega,by go_num,hbel.setCell (by dsimp only;omega) _,by rw[Xd];omega,hii2.keepS ((Yp.refl _ _ _).setCell (Or.inl (by dsimp only;omega)) _),⟨_,(hst.out).congr (fun i _=>?_),fun i g hi hg=>?_⟩⟩,by simp[intOf];omega⟩
     ·rw[hts.out,Tb xs k i (ts.take j) t hnd.out]
     ·by_cases e:i=t
      ·subst e
       simp only[if_true]at hg;rcases HAT.out with q | q
       ·exact HAV.out i g hi (by rw[<-q];exact hg)
       ·rw[q]at hg
        have:=Option.some.inj hg;omega
      ·simp only[e,if_false]at hg
       exact HAV.out i g hi hg
    ·have E:=Xa (List.take_of_length_le (l:=ts) (i:=j) (by omega))
     go_wp2;refine⟨⟨k+1,by omega,by go_num,hwi,?_⟩,by simp[intOf];omega⟩;obtain⟨U,hU,_⟩:=hri.out;exact⟨U,hU.congr (fun i _=>by rw[E.out,hwh.out,ZX])⟩
  ·go_wp2
   go_ret
   obtain⟨U,hU⟩:=hrw.out;have e:=List.take_of_length_le (l:=xs) (i:=k) (by have:=hx.out;omega);refine⟨_,_,rfl,hw,?_⟩;have h:=(hU.congr (P':=fun i:Nat=>predsFrom xs 0 (i:Int)) (fun i _=>by rw[ZX,e])).ints;exact h.mono (by omega) (Nat.le_refl _)
end Go.Proofs.YtbofmlmdgkblkaaDoor
namespace Go.Proofs.YtbofmlmdgkblkaaDoor
set_option maxHeartbeats 4000000
open Go.RowKit
theorem YZ(ok:Int->Nat->Ph->Bool)(F:Fn):∀(xs:List Xg)(i0:Nat),YY ok F xs i0=true↔∀j (h:j<xs.length),xs[j].phis.all (ok F.values (F.preds ((i0+j:Nat):Int)).length)=true
 | [],_=>by simp[YY]
 | x::xs,i0=>by
  simp only[YY,Bool.and_eq_true,YZ ok F xs (i0+1)];constructor
  ·rintro⟨h1,h2⟩ j hj
   cases j with
   | zero=>exact h1
   | succ j =>
    have:=h2 j (by simpa using hj);have e:i0+1+j=i0+(j+1):=by omega
    rw[e]at this;exact this
  ·intro h
   refine⟨h 0 (by simp),fun j hj=>?_⟩;have:=h (j+1) (by simpa using hj);have e:i0+1+j=i0+(j+1):=by omega
   rw[e];exact this
theorem UM(ok:Int->Nat->Ph->Bool)(F:Fn){k:Nat}(hk:k<F.blocks.length)(h:F.blocks[k].phis.all (ok F.values (F.preds (k:Int)).length)=false):YY ok F F.blocks 0=false:=by
 rw[Bool.eq_false_iff];intro hc;have:=(YZ ok F F.blocks 0).1 hc k hk;rw[Nat.zero_add,h]at this;cases this
theorem Wf(v:Int)(a:Option Addr)(n c:Nat)(xs:List Xg)(L B:Nat)(w:World)(ha:Hid (Xy w L B a xs))(hx:Hid (n=xs.length))(hn:n<=1048576)(hl:Hid (∀x∈xs,x.phis.length<=1048576/\∀p∈x.phis,p.args.length<=1048576))(hB:B<=w.heap.size)(hg:Hid (Zb1 xs n)) :
 Calls Tryd.prog 34 #[.agg #[.int .i64 v,.slice a n c]] w fun e w'=>e=.returned (.bool (Kb ⟨v,xs⟩))/\Below w.heap.size w w':=by
 go_enter Tryd.func34,Tryd.ntmps34
 go_wp2_with fail
 refine(Ur v a n c xs L B _ ?q1 hx hn ?q2 hg).mono ?_
 case q1=>exact ha.keep (Xb (Below.refl _ _) _ |>.mono hB)
 case q2=>simp;omega
 rintro e w1 ⟨pa,pc,rfl,hb1,hp1⟩;have hB1:=Xj (Xb (Below.refl w.heap.size w) _) hb1;have hz1:=hb1.size;simp at hz1;obtain⟨hc1,hf1⟩:=WC hb1;have k0:w1.cell? ⟨w.heap.size,0,none⟩=some (.int .i64 v):=by rw[hc1 _ _ (by simp)];simp
 have k1:w1.cell? ⟨w.heap.size,1,none⟩=some (.slice a n c):=by rw[hc1 _ _ (by simp)];simp
 have HA:=Xa (ha.keep (hB1.mono hB));have HPR:=Xa hp1;have HB1:=Xa hB1;clear hc1 hf1 hp1 hb1 ha hB1;go_wp2
 go_loopw [15] (fun i wr=>∃k:Nat,k<=n/\i=.int .i64 k/\Below w1.heap.size w1 wr/\Hid (∀j (h:j<xs.length),j<k->xs[j].phis.all (ZB v (predsFrom xs 0 (j:Int)).length)=true)) (fun i _=>n-(intOf i).toNat)
 case atStart=>exact⟨0,Nat.zero_le _,rfl,Below.refl _ _,fun j _ h=>absurd h (by omega)⟩
 case round =>
  obtain⟨k,hk,rfl,hw,hall⟩:=hrel;by_cases hlt:k<n
  ·have hkx:k<xs.length:=by have:=hx.out;omega
   obtain⟨b,o,rfl,⟨_,hbB⟩,hc⟩:=HA.out k hkx;obtain⟨pa',pc',ia,ic,d0,d1,⟨d2,d3,d4,d5⟩,hp,_⟩:=hc;have e0:=(Yn hw (by omega)).trans d0;have e1:=(Yn hw (by omega)).trans d1;have e2:=(Yn hw (by omega)).trans d2;have e3:=(Yn hw (by omega)).trans d3;have e4:=(Yn hw (by omega)).trans d4;have e5:=(Yn hw (by omega)).trans d5;obtain⟨hl1,hl2⟩:=hl.out _ (List.getElem_mem hkx);have HL2:=Xa hl2;have hno:Hid (xs[k].phis.all (ZB v (predsFrom xs 0 (k:Int)).length)=false->Kb ⟨v,xs⟩=false):=fun h=>UM ZB ⟨v,xs⟩ (k:=k) hkx h
   have hlen:k<((List.range n).map fun i:Nat=>predsFrom xs 0 (i:Int)).length:=by simpa using hlt
   obtain⟨gb,go,rfl,⟨_,hgB⟩,a',c',f0,hii⟩:=HPR.out k hlen;simp only[List.getElem_map,List.getElem_range]at f0;have HP:=Xa hp;have hnl:(predsFrom xs 0 (k:Int)).length<=1048576:=by have:=YP (k:Int) xs 0;have:=hx.out;omega
   have HF0:=Xa f0;have hwz:=hw.size;have hyes:Hid (xs[k].phis.all (ZB v (predsFrom xs 0 (k:Int)).length)=true->∀j (h:j<xs.length),j<k+1->xs[j].phis.all (ZB v (predsFrom xs 0 (j:Int)).length)=true) :=
    fun h j hj hjk=>if e:j=k then by subst e;exact h else hall.out j hj (by omega)
   clear hp hl2 f0 hii hlen d0 d1 d2 d3 d4 d5;generalize xs[k]=X at *;generalize predsFrom xs 0 (k:Int)=ps at *;go_wp2;generalize hM:wr.heap.size=M at *;have HM:=Xa hM;clear hM
   go_loopw [23] (fun i wi=>∃j:Nat,j<=X.phis.length/\i=.int .i64 j/\Below w1.heap.size w1 wi/\Hid ((X.phis.take j).all (ZB v ps.length)=true)) (fun i _=>X.phis.length-(intOf i).toNat)
   case atStart=>exact⟨0,Nat.zero_le _,rfl,Xb hw _,rfl⟩
   case round =>
    obtain⟨j,hj,rfl,hwi,halli⟩:=hrel;have f0:=(Yn hwi (by omega)).trans HF0.out;have k0':=(Yn hwi (by omega)).trans k0;by_cases hjt:j<X.phis.length
    ·obtain⟨b',o',rfl,⟨_,hbB'⟩,aa,cc,g0,g1,hi⟩:=HP.out j hjt
     have e6:=(Yn hwi (by omega)).trans g0;have e7:=(Yn hwi (by omega)).trans g1;have hal:=HL2.out _ (List.getElem_mem hjt);have hno2:=Xa (fun h=>Xv hno (Jk (p:=ZB v ps.length) (xs:=X.phis) (k:=j) hjt h));have hyes2:=Xa (fun h=>XR (p:=ZB v ps.length) hjt halli.out h);have HIA:=Xa hi;clear g0 g1 hi;generalize X.phis[j]=P at *;have hq1:w.heap.size<wr.heap.size:=by have:=hwi.size;omega
     have hq2:gb<wr.heap.size:=by have:=hwi.size;omega
     have hPS:Hid (ZB v ps.length P=(Kt true P.dst 0 v&&(decide (1<=P.args.length)&&decide (P.args.length=ps.length)&&P.args.all (Ks 0 v)))):=rfl;cases hf:Kt true P.dst 0 v
     ·have HF:=Xa hf
      go_wp2
      go_quiet ((go_at_call 61;exact Calls.quiet_of_same (Ye _ _ _ _ _)))
      go_wp2
      go_ret
      exact⟨Xm (Xv hno2 (by rw[hPS.out,HF.out];rfl)).symm,Xj HB1.out (below_drewN (Xb hwi _) _)⟩
     ·have HF:=Xa hf
      by_cases h0:P.args.length=0
      ·have h0':((P.args.length:Int)==0)=true:=by simp[h0]
       have H0:=Xa h0;clear h0;go_wp2
       go_quiet ((go_at_call 61;exact Calls.quiet_of_same (Ye _ _ _ _ _)))
       go_wp2
       go_ret
       exact⟨Xm (Xv hno2 (by rw[hPS.out,HF.out,H0.out];rfl)).symm,Xj HB1.out (below_drewN (Xb hwi _) _)⟩
      ·have h0':((P.args.length:Int)==0)=false:=by rw[beq_eq_false_iff_ne];omega
       have H0:=Xa h0;clear h0;by_cases h1:P.args.length=ps.length
       ·have h1':((P.args.length:Int) != (ps.length:Int))=false:=by simp[h1]
        have H1:=Xa h1;clear h1;go_wp2
        go_quiet ((go_at_call 61;exact Calls.quiet_of_same (Ye _ _ _ _ _)))
        go_wp2;have hb9:=below_drewN (Xb hwi (.cells #[.int .i64 P.dst,.slice aa P.args.length cc] 42)) nq;generalize (wr.alloc (.cells #[.int .i64 P.dst,.slice aa P.args.length cc] 42)).drewN nq=w9 at *;have r0:=(Yn hb9 (by omega)).trans k0;clear hf h0' h1' f0 k0' e6 e7
        go_loop [53] (fun i=>∃q:Nat,q<=P.args.length/\i=.int .i64 q/\Hid ((P.args.take q).all (Ks 0 v)=true)) (fun i=>P.args.length-(intOf i).toNat)
        case atStart=>exact⟨0,Nat.zero_le _,rfl,rfl⟩
        case round =>
         obtain⟨q,hq,rfl,hallq⟩:=hrel;by_cases hqt:q<P.args.length
         ·obtain⟨b2,o2,rfl,⟨_,hb2⟩,hc2⟩:=HIA.out q hqt
          have r1:=(Yn hb9 (by omega)).trans hc2;have hno3:=Xa (fun h=>Jk (p:=Ks 0 v) (xs:=P.args) (k:=q) hqt h);have hyes3:=Xa (fun h=>XR (p:=Ks 0 v) hqt hallq.out h);clear hc2;generalize P.args[q]=A at *;have hfA:Hid (Kt true A 0 v=Ks 0 v A):=rfl;cases hr:Kt true A 0 v
          ·have HR:=Xa hr
           go_wp2_with (go_at_call 61;refine(Ye _ _ _ _ _).mono ?_;rintro e w2 ⟨rfl,hw2⟩;rw[hw2];clear hw2 w2)
           go_ret
           exact⟨Xm (Xv hno2 (by rw[hPS.out,Xv hno3 (by rw[<-hfA.out];exact HR.out)];simp)).symm,Xj HB1.out hb9⟩
          ·have HR:=Xa hr
           go_wp2_with (go_at_call 61;refine(Ye _ _ _ _ _).mono ?_;rintro e w2 ⟨rfl,hw2⟩;rw[hw2];clear hw2 w2)
           go_round
           case rel=>exact⟨q+1,by omega,by go_num,Xv hyes3 (by rw[<-hfA.out];exact HR.out)⟩
           case measure=>simp[intOf];omega
         ·go_wp2
          exact⟨⟨j+1,by omega,by go_num,hb9,Xv hyes2 (by
           have h1:=H1.out;have h0:=H0.out;rw[hPS.out,HF.out,decide_eq_true h1,decide_eq_true (p:=1<=P.args.length) (by omega),Yw (xs:=P.args) (k:=q) (by omega) hallq.out];rfl)⟩,by simp[intOf];omega⟩
       ·have h1':((P.args.length:Int) != (ps.length:Int))=true:=by rw[bne_iff_ne];omega
        have H1:=Xa h1;clear h1;go_wp2
        go_quiet ((go_at_call 61;exact Calls.quiet_of_same (Ye _ _ _ _ _)))
        go_wp2
        go_ret
        exact⟨Xm (Xv hno2 (by rw[hPS.out,HF.out,decide_eq_false H1.out];simp)).symm,Xj HB1.out (below_drewN (Xb hwi _) _)⟩
    ·go_wp2
     exact⟨⟨k+1,by omega,by go_num,hwi,Xv hyes (Yw (xs:=X.phis) (k:=j) (by omega) halli.out)⟩,by simp[intOf];omega⟩
  ·go_wp2
   go_ret
   exact⟨Xm (by
    symm;exact(YZ ZB ⟨v,xs⟩ xs 0).2 (fun j hj=>by rw[Nat.zero_add];exact hall.out j hj (by have:=hx.out;omega))),Xj HB1.out hw⟩
theorem TE{v:Int}{xs:List Xg}(h:ZY ⟨v,xs⟩=true):Zb1 xs xs.length:=by
 intro x hx;have h1:ZI v xs.length x.term=true:=List.all_eq_true.1 h x hx;simp only[ZI,Ze,Bool.and_eq_true,decide_eq_true_eq]at h1;obtain⟨⟨⟨⟨⟨h2,h3⟩,h4⟩,h5⟩,h6⟩,h7⟩:=h1;have hc:x.term.kind=1\/x.term.kind=2\/x.term.kind=3:=by omega
 rcases hc with e | e | e
 ·simp only[e,Kt]at h5
  simp[XZ.targets,e]at h5 |-;omega
 ·simp only[e,Kt]at h5 h6 h7
  simp[XZ.targets,e]at h5 h6 h7 |-;refine⟨?_,h7⟩;omega
 ·simp[XZ.targets,e]
theorem Zd2{m:Nat}{xs:List Xg}(h:Zl ⟨m,xs⟩=true)(k:Kb ⟨m,xs⟩=true):Zhr xs m:=by
 intro x hx;constructor
 ·intro p hp
  obtain⟨j,hj,rfl⟩:=List.getElem_of_mem hx;have h1:=(YZ ZB ⟨m,xs⟩ xs 0).1 k j hj;have h2:=List.all_eq_true.1 h1 p hp;simp only[ZB,Kt,Bool.and_eq_true,decide_eq_true_eq,if_true]at h2;exact h2.1
 ·intro y hy
  have h1:=List.all_eq_true.1 (List.all_eq_true.1 h x hx) y hy;simp only[Yh,Bool.and_eq_true,decide_eq_true_eq]at h1;obtain⟨⟨⟨⟨⟨h2,h3⟩,h4⟩,_⟩,_⟩,_⟩:=h1;refine⟨h2,h3,fun hd=>?_⟩;rw[hd]at h4;simpa [Kt]using h4
theorem TB(xs:List Xg):Xo xs=xs.length+X7 xs:=by
 induction xs with
 | nil=>rfl
 | cons x xs ih =>
  have h1:Xo (x::xs)=KL x+Xo xs:=by simp[Xo]
  have h2:X7 (x::xs)=ZH x+X7 xs:=by simp[X7]
  have h3:XP x.phis=x.phis.length+Jr x.phis:=by
   generalize x.phis=ps
   induction ps with
   | nil=>rfl
   | cons p ps ih=>simp only[XP,Jr,List.map_cons,List.sum_cons,List.length_cons]at ih |-;omega
  rw[h1,h2,ih,List.length_cons];simp only[KL,ZH];omega
theorem Zhu{xs:List Xg}{x:Xg}(h:x∈xs):x.phis.length+Jr x.phis+x.instrs.length<=X7 xs:=by
 induction xs with
 | nil=>cases h
 | cons y ys ih =>
  have h2:X7 (y::ys)=ZH y+X7 ys:=by simp[X7]
  rcases List.mem_cons.1 h with rfl | h
  ·rw[h2];simp only[ZH];omega
  ·have:=ih h;omega
theorem Zi9{ps:List Ph}{p:Ph}(h:p∈ps):p.args.length<=Jr ps:=by
 induction ps with
 | nil=>cases h
 | cons y ys ih =>
  have h2:Jr (y::ys)=y.args.length+Jr ys:=by simp[Jr]
  rcases List.mem_cons.1 h with rfl | h
  ·omega
  ·have:=ih h;omega
theorem VD{xs:List Xg}(h:xs.length+X7 xs<=1048576):Zhw xs:=fun x hx=>by
 have h1:=Zhu hx;exact⟨by omega,by omega,fun p hp=>by have:=Zi9 hp;omega⟩
theorem Z2(v:Int)(a:Option Addr)(n c:Nat)(xs:List Xg)(L B:Nat)(w:World)(ha:Hid (Xy w L B a xs))(hx:Hid (n=xs.length))(hs:Hid (xs.length+X7 xs<=1048576))(hB:B<=w.heap.size)(hO:Hid (TV w))(hT:Hid (To w)) :
 Calls Tryd.prog 13 #[.agg #[.int .i64 v,.slice a n c]] w fun e w'=>e=.returned (.bool (Y7 ⟨v,xs⟩))/\Below w.heap.size w w':=by
 have hn:n<=1048576:=by have:=hx.out;have:=hs.out;omega
 have hbs:Xo xs<=1048576:=by rw[TB];exact hs.out
 have hlen:=Xa (VD hs.out);have ha1:=fun o=>ha.keep ((Xb (Below.refl w.heap.size w) o).mono hB)
 have HBS:=Xa hbs;clear hbs;have hV:Hid (Y7 ⟨v,xs⟩=(Y6 ⟨v,xs⟩ && ZY ⟨v,xs⟩ && Zl ⟨v,xs⟩ && Kb ⟨v,xs⟩ && Ts ⟨v,xs⟩)):=rfl;cases h1:Y6 ⟨v,xs⟩
 ·have H1:=Xa h1
  have hA1:=Xa ha1;clear h1 ha1
  go_enter Tryd.func13,Tryd.ntmps13
  go_wp2_with fail
  refine(Tf v a n c xs L B _ (Xv hA1 _) hx hn HBS.out (by simp;omega)).mono ?_;rintro e w1 ⟨rfl,hb1⟩;rw[Xv H1];go_wp2
  go_ret
  exact⟨Xm (by rw[hV.out,H1.out];rfl),Xj (Xb (Below.refl _ _) _) hb1⟩
 have H1:=Xa h1;have hA1:=Xa ha1;clear h1 ha1;have hv0:0<=v/\v<=2000:=by
  have h:=H1.out;simp only[Y6,Bool.and_eq_true,decide_eq_true_eq]at h;omega
 obtain⟨m,rfl⟩:=Int.eq_ofNat_of_zero_le hv0.1;have hm:m<=2000:=by omega
 clear hv0
 go_enter Tryd.func13,Tryd.ntmps13
 go_wp2_with fail
 refine(Tf m a n c xs L B _ (Xv hA1 _) hx hn HBS.out (by simp;omega)).mono ?_;rintro e w1 ⟨rfl,hb1⟩;rw[Xv H1];obtain⟨hc1,hf1⟩:=WC hb1;have k0:w1.cell? ⟨w.heap.size,0,none⟩=some (.int .i64 m):=by rw[hc1 _ _ (by simp)];simp
 have k1:w1.cell? ⟨w.heap.size,1,none⟩=some (.slice a n c):=by rw[hc1 _ _ (by simp)];simp
 have B1:=Xj (Xb (Below.refl w.heap.size w) _) hb1;have hz1:=hb1.size;simp at hz1;have hA:=Xa (ha.keep (B1.mono hB));have hO1:=Xa (hO.keep B1);have hT1:=Xa (hT.keep B1);have HB1:=Xa B1;clear hc1 hf1 hb1 hA1 B1
 go_wp2_with fail
 refine(VE m a n c xs L B _ hA hx hn (by omega) hT1).mono ?_;rintro e w2 ⟨rfl,hb2⟩;cases h2:ZY ⟨m,xs⟩
 ·have H2:=Xa h2
  clear h2;go_wp2
  go_ret
  exact⟨Xm (by rw[hV.out,H1.out,H2.out];rfl),Xj HB1.out hb2⟩
 have H2:=Xa h2;clear h2;have hg:=Xa (TE H2.out);rw[<-hx.out]at hg;have k0':=(Yn hb2 (by omega)).trans k0;have k1':=(Yn hb2 (by omega)).trans k1;have hz2:=hb2.size;have hA2:=Xa (hA.keep (hb2.mono (by omega)));have hO2:=Xa (hO1.keep hb2);have HB2:=Xa (Xj HB1.out hb2);clear hb2 k0 k1
 go_wp2_with fail
 refine(UT m a n c xs L B _ hA2 hx hn (fun x h=>(hlen.out x h).2.1) (by omega) hO2).mono ?_;rintro e w3 ⟨rfl,hb3⟩;cases h3:Zl ⟨m,xs⟩
 ·have H3:=Xa h3
  clear h3;go_wp2
  go_ret
  exact⟨Xm (by rw[hV.out,H1.out,H2.out,H3.out];rfl),Xj HB2.out hb3⟩
 have H3:=Xa h3;clear h3;have q0:=(Yn hb3 (by omega)).trans k0';have q1:=(Yn hb3 (by omega)).trans k1';have hz3:=hb3.size;have hA3:=Xa (hA2.keep (hb3.mono (by omega)));have hO3:=Xa (hO2.keep hb3);have HB3:=Xa (Xj HB2.out hb3);clear hb3 k0' k1'
 go_wp2_with fail
 refine(Wf m a n c xs L B _ hA3 hx hn (fun x h=>⟨(hlen.out x h).1,(hlen.out x h).2.2⟩) (by omega) hg).mono ?_;rintro e w4 ⟨rfl,hb4⟩;cases h4:Kb ⟨m,xs⟩
 ·have H4:=Xa h4
  clear h4;go_wp2
  go_ret
  exact⟨Xm (by rw[hV.out,H1.out,H2.out,H3.out,H4.out];rfl),Xj HB3.out hb4⟩
 have H4:=Xa h4;clear h4;have r0:=(Yn hb4 (by omega)).trans q0;have r1:=(Yn hb4 (by omega)).trans q1;have hz4:=hb4.size;have hA4:=Xa (hA3.keep (hb4.mono (by omega)));have hO4:=Xa (hO3.keep hb4);have HB4:=Xa (Xj HB3.out hb4);clear hb4 q0 q1
 go_wp2_with fail
 refine(UV m a n c xs L B _ hA4 hx hn hm (show X7 xs<=1048576 by have:=hs.out;omega) (by omega) hO4 (Zd2 H3.out H4.out)).mono ?_;rintro e w5 ⟨rfl,hb5⟩;go_wp2
 go_ret
 exact⟨Xm (by rw[hV.out,H1.out,H2.out,H3.out,H4.out];simp),Xj HB4.out hb5⟩
end Go.Proofs.YtbofmlmdgkblkaaDoor
namespace Go.Proofs.YtbofmlmdgkblkaaDoor
def Yb(xs:List Xg)(k b:Nat):List Nat:=(List.range k).filter fun j=>decide (b∈XW xs j)
theorem W4{xs:List Xg}(hT:∀x∈xs,∀t∈x.term.targets,0<=t)(b:Nat):∀(k:Nat),k<=xs.length->predsFrom (xs.take k) 0 (b:Int)=Xk (Yb xs k b)
 | 0,_=>by simp[predsFrom,Yb,Xk]
 | k+1,hk=>by
  have hk':k<xs.length:=hk;rw[List.take_succ_eq_append_getElem hk',Z4,W4 hT b k (by omega)];have hl:(xs.take k).length=k:=by simp;omega
  have e:xs[k].term.targets.contains (b:Int)=decide (b∈XW xs k):=by
   rw[Jt hk',Bool.eq_iff_iff,List.contains_iff_mem,decide_eq_true_eq,List.mem_map];constructor
   ·exact fun h=>⟨_,h,by simp⟩
   ·rintro⟨t,ht,et⟩
    have h0:=hT _ (List.getElem_mem hk') t ht;have:t=(b:Int):=by omega
    rw[<-this];exact ht
  rw[e,hl];unfold Yb;rw[List.range_succ,List.filter_append,List.filter_cons,List.filter_nil];by_cases h:b∈XW xs k
  ·rw[if_pos (by simpa using h),if_pos (by simpa using h)];simp[Xk]
  ·rw[if_neg (by simpa using h),if_neg (by simpa using h)];simp[Xk]
theorem KU{xs:List Xg}(hT:∀x∈xs,∀t∈x.term.targets,0<=t)(b:Nat):predsFrom xs 0 (b:Int)=Xk (Yb xs xs.length b):=by
 have:=W4 hT b xs.length (Nat.le_refl _);rwa[List.take_length]at this
theorem WM{xs:List Xg}{n b s:Nat}:s∈Yb xs n b↔s<n/\b∈XW xs s:=by
 unfold Yb;rw[List.mem_filter,List.mem_range,decide_eq_true_eq]
theorem ZdJ{xs:List Xg}{n b:Nat}:(Yb xs n b).length<=n:=Nat.le_trans (List.length_filter_le _ _) (by simp)
def Zcr(xs:List Xg):(Nat->Nat) × List Nat:=dfsV (XW xs) xs.length 0 (fun _=>0,[])
def ZhU(xs:List Xg):List Nat:=(Zcr xs).2.reverse
structure WY(xs:List Xg):Prop where
 n1:1<=xs.length
 n2:xs.length<=1000
 tgt:∀x∈xs,∀t∈x.term.targets,0<=t/\t<xs.length
 ok:Zb1 xs xs.length
theorem UN{v:Int}{xs:List Xg}(h:Y7 ⟨v,xs⟩=true):WY xs:=by
 simp only[Y7,Bool.and_eq_true]at h;obtain⟨⟨⟨⟨h1,h2⟩,_⟩,_⟩,_⟩:=h;simp only[Y6,Bool.and_eq_true,decide_eq_true_eq]at h1;have ht:=TE h2;exact⟨h1.1.1.2,h1.1.2,fun x hx=>(ht x hx).1,ht⟩
theorem WY.tg{xs:List Xg}(h:WY xs):∀b,b<xs.length->∀t∈XW xs b,t<xs.length:=fun b hb t ht=>by
 rw[Jt hb]at ht;obtain⟨z,hz,rfl⟩:=List.mem_map.1 ht;have:=h.tgt _ (List.getElem_mem hb) z hz;omega
theorem WY.re{xs:List Xg}(h:WY xs):∀x,Re (XW xs) x->x<xs.length:=fun x hx=>by
 induction hx with
 | root=>exact h.n1
 | step _ ht ih=>exact h.tg _ ih _ ht
theorem WY.top{xs:List Xg}(h:WY xs):(∀x,x∈ZhU xs↔Re (XW xs) x)/\(∀x,Xf (Zcr xs).1 x=true↔Re (XW xs) x)/\(ZhU xs).Nodup/\∀x a,Kk (XW xs) a x->a≠x->Bef (ZhU xs) a x:=by
 obtain⟨h1,h2,h3,h4⟩:=ZgM h.tg h.n1 (Nat.le_refl xs.length);refine⟨fun x=>?_,h2,?_,fun x a hd hne=>Zba (h4 x a hd hne)⟩
 ·show x∈(Zcr xs).2.reverse↔_
  rw[List.mem_reverse];exact h1 x
 ·show((Zcr xs).2.reverse).Nodup
  exact List.pairwise_reverse.2 (h3.imp (fun hne e=>hne e.symm))
end Go.Proofs.YtbofmlmdgkblkaaDoor
namespace Go.Proofs.YtbofmlmdgkblkaaDoor
open Go.RowKit Go.Shelf
attribute [local go_sem] Oper.semAt_some
def mks(ds:List Nat):List Deferred:=ds.map fun D=>{ target:=.collected D,args:=#[] }
structure UQ(W:World)(B:Nat)(ds:List Nat):Prop where
 nd:ds.Nodup
 ge:∀D∈ds,B<=D
 obj:∀D∈ds,W.heap[D]?=some (.deferred (some []))
end Go.Proofs.YtbofmlmdgkblkaaDoor
