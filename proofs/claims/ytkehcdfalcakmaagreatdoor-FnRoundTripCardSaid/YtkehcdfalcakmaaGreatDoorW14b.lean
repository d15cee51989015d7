import Derived.Deep.QuietTactic
import Derived.Test.YtkehcdfalcakmaaGreatDoorW8
import Derived.Test.YtkehcdfalcakmaaGreatDoorW15
import Derived.Test.YtkehcdfalcakmaaGreatDoorID1
import Derived.Laws.CopyOwn
namespace Go.Proofs.YtkehcdfalcakmaaGreatDoor
set_option maxHeartbeats 2000000
open Go.RowKit
def Zdn(xs:List Xf)(n:Nat):Prop:=∀x∈xs,(∀t∈x.term.targets,0<=t/\t<(n:Int))/\x.term.targets.Nodup
def Yt(xs:List Xf)(k:Nat)(ts:List Int)(i:Nat):List Int:=predsFrom (xs.take k) 0 i++(if ts.contains (i:Int)then [(k:Int)]else [])
theorem Ug(xs:List Xf)(k i:Nat):Yt xs k [] i=predsFrom (xs.take k) 0 i:=by simp[Yt]
theorem VX(xs:List Xf)(k i:Nat)(hk:k<xs.length):Yt xs k xs[k].term.targets i=predsFrom (xs.take (k+1)) 0 i:=by
 unfold Yt;rw[X9 _ _ hk,J5];simp[Nat.min_eq_left (Nat.le_of_lt hk)]
theorem Wq(xs:List Xf)(k i:Nat)(ts:List Int)(t:Nat)(h:(t:Int) ∉ ts):Yt xs k (ts++[(t:Int)]) i=if i=t then Yt xs k ts t++[(k:Int)]else Yt xs k ts i:=by
 unfold Yt;by_cases e:i=t
 ·subst e
  simp[h]
 ·have h1:(ts++[(t:Int)]).contains (i:Int)=ts.contains (i:Int):=by
   rw[Bool.eq_iff_iff];simp only[List.contains_iff_mem,List.mem_append,List.mem_singleton];constructor
   ·rintro(h | h)
    ·exact h
    ·omega
   ·exact Or.inl
  rw[if_neg e,h1]
theorem Za2(xs:List Xf)(k i:Nat)(ts:List Int)(h:k<=xs.length):(Yt xs k ts i).length<=k+1:=by
 unfold Yt;have:=Zl (i:Int) (xs.take k) 0;simp only[List.length_take]at this;rw[List.length_append];split<;>simp<;>omega
theorem U8(v:Int)(a:Option Addr)(n c:Nat)(xs:List Xf)(L B:Nat)(w:World)(ha:Hid (X8 w L B a xs))(hx:Hid (n=xs.length))(hn:n<=1048576)(hB:B<=w.heap.size)(hg:Hid (Zdn xs n)) :
 Calls Tryz.prog 43 #[.agg #[.int .i64 v,.slice a n c]] w fun e w'=>∃a' c',e=.returned (.slice a' n c')/\Below w.heap.size w w'/\YK w' w.heap.size w'.heap.size a' ((List.range n).map fun i:Nat=>predsFrom xs 0 (i:Int)):=by
 obtain⟨i0,hi0,hz0,hz1,hz2⟩:=info_parts Tryz.info2';have hmk:=run_make_row' (P:=Tryz.prog) 83 44 (.slice none 0 0) 24 Tryz.underlying83 Tryz.info45 rfl .i64 .i64 n (by omega) (by omega)
 go_enter Tryz.func43,Tryz.ntmps43
 go_wp2
 go_loopw [15] (fun i wr=>∃k:Nat,k<=n/\i=.int .i64 k/\Below w.heap.size w wr/\Hid (∃U,Z0 wr (w.heap.size+1) n (Yt xs k []) U)) (fun i _=>n-(intOf i).toNat)
 case atStart=>exact⟨0,Nat.zero_le _,rfl,Xb (Xb (Below.refl _ _) _) _,⟨_,by have:=Z0.born (w.alloc (.cells #[.int .i64 v,.slice a n c] 25)) n;rw[World.size_alloc]at this;exact this⟩⟩
 case round =>
  obtain⟨k,hk,rfl,hw,hrw⟩:=hrel;by_cases hlt:k<n
  ·have hkx:k<xs.length:=by have:=hx.out;omega
   obtain⟨b,o,rfl,⟨_,hbB⟩,hc⟩:=ha.out k hkx;obtain⟨pa,pc,ia,ic,e0,e1,⟨e2,e3,e4,e5⟩,_,_⟩:=hc.keep (hw.mono hB) (by omega);have hwh:=Xa (fun i=>VX xs k i hkx);obtain⟨hg1,hg2⟩:=hg.out _ (List.getElem_mem hkx);have HG1:=Xa hg1;have HG2:=Xa hg2;clear hc hg1 hg2;generalize xs[k]=X at *
   go_wp2_with fail
   refine(Za7 X.term _).mono ?_;rintro e w2 ⟨a1,c1,rfl,hb2,hi2⟩;have hb3:=Xi (Xb (Below.refl wr.heap.size wr) _) hb2;have hz3:=hb2.size;simp at hz3;have hz4:wr.heap.size<w2.heap.size:=by omega
   have HI:=Xa hi2;have hGlt:w.heap.size+1<wr.heap.size:=by obtain⟨U,hU⟩:=hrw.out;exact hU.1.lt
   have HR:Hid (∃U,Z0 w2 (w.heap.size+1) n (Yt xs k []) U/\∀i g,i<n->(U i).ownBlock=some g->g<=wr.heap.size\/w2.heap.size<=g):=by
    obtain⟨U,hU⟩:=hrw.out;exact⟨U,hU.below hb3,fun i g hi hg=>by have:=((hU.2.1 i hi).lt g hg).2;omega⟩
   have HW:=Xa (Xi hw hb3);have htl:X.term.targets.length<=2:=by unfold XN.targets;split<;>(try split)<;>simp
   generalize hT:X.term.targets=ts at *;clear hT hi2 hrw e0 e1 e2 e3 e4 e5 hw;simp only[World.size_alloc]at HI;generalize hM:wr.heap.size=M at *;clear hM;go_wp2
   go_loopw [24] (fun i wi=>∃j:Nat,j<=ts.length/\i=.int .i64 j/\Below w.heap.size w wi/\w2.heap.size<=wi.heap.size/\Hid (Xh wi (M+1) w2.heap.size a1 ts)/\Hid (∃U,Z0 wi (w.heap.size+1) n (Yt xs k (ts.take j)) U/\∀i g,i<n->(U i).ownBlock=some g->g<=M\/w2.heap.size<=g)) (fun i _=>ts.length-(intOf i).toNat)
   case atStart=>exact⟨0,Nat.zero_le _,rfl,HW.out,Nat.le_refl _,HI.out,HR.out⟩
   case round =>
    obtain⟨j,hj,rfl,hwi,hszi,hii,hri⟩:=hrel;by_cases hjt:j<ts.length
    ·obtain⟨b',o',rfl,_,hcj⟩:=hii.out j hjt
     obtain⟨ht0,ht1⟩:=HG1.out _ (List.getElem_mem hjt);have hnd:Hid (ts[j] ∉ ts.take j):=by
      intro hm;obtain⟨m,hm1,hm2⟩:=List.getElem_of_mem hm;simp only[List.length_take]at hm1;rw[List.getElem_take]at hm2;have:=(List.getElem_inj HG2.out).1 hm2;omega
     have hts:Hid (ts.take (j+1)=ts.take j++[ts[j]]):=X9 _ _ hjt;obtain⟨U,hU,hav⟩:=hri.out;have HAV:=Xa hav;clear hav;obtain⟨t,htt⟩:=Int.eq_ofNat_of_zero_le ht0;generalize ts[j]=T at *;subst htt;have htn:t<n:=by omega
     have hcU:=hU.1.cell htn;have hfU:=hU.1.frozen t;have hpl:=Za2 xs k t (ts.take j) (by have:=hx.out;omega);have HU:=Xa hU;clear hU hri
     go_wp2_with (at_builtin;refine wpList_append_own_at _ rfl _ _ 44 rfl (w.heap.size+1+1) 2 i0 (.int .i64 0) 1 8 Tryz.underlying44 hi0 hz0 hz1 hz2 rfl (by decide) _ _ _ rfl ((HU.alloc _).2.1 t htn) ⟨wr.heap.size,0,none⟩ 1 1 [.int .i64 k] rfl rfl ?c1 ?c2 ?c3 ?c4 ?c5 ?_)
     case c1 =>
      intro j u hj
      match j,hj with
      | 0,hj=>simp at hj;subst hj;simp[Addr.add]
     case c2=>intro u hu;simp at hu;subst hu;rfl
     case c3=>unfold maxLen;omega
     case c4=>omega
     case c5=>have:=HU.1.lt;simp;omega
     intro v1 w1 hown1 hgrow1 _ hat1;obtain⟨av,cv,hv,_⟩:=Yv (xs:=Yt xs k (ts.take j) t++[(k:Int)]) (by rw[Z1];exact hown1);have hst:=Xa ((HU.alloc (.cells #[.int .i64 k] 2)).step htn k v1 hgrow1 hown1 (by rw[World.size_alloc];exact hat1));have hbG:w1.heap[w.heap.size+1]?=(wr.alloc (.cells #[.int .i64 k] 2)).heap[w.heap.size+1]?:=YP hgrow1 ((HU.alloc (.cells #[.int .i64 k] 2)).2.1 t htn) (by omega) (by have:=HU.1.lt;simp;omega);have hbel:=Xa (XG (Xb hwi (.cells #[.int .i64 k] 2)) hgrow1 ((HU.alloc (.cells #[.int .i64 k] 2)).2.1 t htn) (by omega) (by have:=hwi.size;simp;omega));have hcG:w1.cell? ⟨w.heap.size+1,t,none⟩=some (U t):=by rw[Xc hbG];exact((HU.alloc (.cells #[.int .i64 k] 2)).1).cell htn
     have hfG:w1.frozen? ⟨w.heap.size+1,t,none⟩=false:=by rw[World.frozen?_of_block (w:=wr.alloc (.cells #[.int .i64 k] 2)) (a:=⟨w.heap.size+1,t,none⟩) hbG];exact((HU.alloc (.cells #[.int .i64 k] 2)).1).frozen t
     have hgz:=hgrow1.size;simp at hgz;have hsm:X7 (M+1) w2.heap.size wr w1:=fun q q1 q2=>(hgrow1.block q (by simp;omega) (fun e=>by have:=HAV.out t q htn e.symm;omega)).trans (Below.heap_alloc _ _ _ (by omega))
     have HSM:=Xa hsm;have hii2:=Xa (hii.keepS hsm);have HAT:=Xa hat1;have HV:=Xa hv;clear hsm;clear hown1 hgrow1 hat1 hbG hcU hfU;rw[hv];clear hv;go_wp2;have hv2:=HV.out;rw[List.length_append,List.length_cons,List.length_nil,Nat.zero_add]at hv2;rw[<-hv2];refine⟨⟨j+1,by omega,by go_num,hbel.setCell (by dsimp only;omega) _,by rw[Xd];omega,hii2.keepS ((X7.refl _ _ _).setCell (Or.inl (by dsimp only;omega)) _),⟨_,(hst.out).congr (fun i _=>?_),fun i g hi hg=>?_⟩⟩,by simp[intOf];omega⟩
     ·rw[hts.out,Wq xs k i (ts.take j) t hnd.out]
     ·by_cases e:i=t
      ·subst e
       simp only[if_true]at hg;rcases HAT.out with q | q
       ·exact HAV.out i g hi (by rw[<-q];exact hg)
       ·rw[q]at hg
        have:=Option.some.inj hg;omega
      ·simp only[e,if_false]at hg
       exact HAV.out i g hi hg
    ·have E:=Xa (List.take_of_length_le (l:=ts) (i:=j) (by omega))
     go_wp2;refine⟨⟨k+1,by omega,by go_num,hwi,?_⟩,by simp[intOf];omega⟩;obtain⟨U,hU,_⟩:=hri.out;exact⟨U,hU.congr (fun i _=>by rw[E.out,hwh.out,Ug])⟩
  ·go_wp2
   go_ret
   obtain⟨U,hU⟩:=hrw.out;have e:=List.take_of_length_le (l:=xs) (i:=k) (by have:=hx.out;omega);refine⟨_,_,rfl,hw,?_⟩;have h:=(hU.congr (P':=fun i:Nat=>predsFrom xs 0 (i:Int)) (fun i _=>by rw[Ug,e])).ints;exact h.mono (by omega) (Nat.le_refl _)
end Go.Proofs.YtkehcdfalcakmaaGreatDoor
namespace Go.Proofs.YtkehcdfalcakmaaGreatDoor
set_option maxHeartbeats 4000000
open Go.RowKit
theorem Z7(ok:Int->Nat->Ph->Bool)(F:Fn):∀(xs:List Xf)(i0:Nat),Yj ok F xs i0=true↔∀j (h:j<xs.length),xs[j].phis.all (ok F.values (F.preds ((i0+j:Nat):Int)).length)=true
 | [],_=>by simp[Yj]
 | x::xs,i0=>by
  simp only[Yj,Bool.and_eq_true,Z7 ok F xs (i0+1)];constructor
  ·rintro⟨h1,h2⟩ j hj
   cases j with
   | zero=>exact h1
   | succ j =>
    have:=h2 j (by simpa using hj);have e:i0+1+j=i0+(j+1):=by omega
    rw[e]at this;exact this
  ·intro h
   refine⟨h 0 (by simp),fun j hj=>?_⟩;have:=h (j+1) (by simpa using hj);have e:i0+1+j=i0+(j+1):=by omega
   rw[e];exact this
theorem UQ(ok:Int->Nat->Ph->Bool)(F:Fn){k:Nat}(hk:k<F.blocks.length)(h:F.blocks[k].phis.all (ok F.values (F.preds (k:Int)).length)=false):Yj ok F F.blocks 0=false:=by
 rw[Bool.eq_false_iff];intro hc;have:=(Z7 ok F F.blocks 0).1 hc k hk;rw[Nat.zero_add,h]at this;cases this
theorem Wj(v:Int)(a:Option Addr)(n c:Nat)(xs:List Xf)(L B:Nat)(w:World)(ha:Hid (X8 w L B a xs))(hx:Hid (n=xs.length))(hn:n<=1048576)(hl:Hid (∀x∈xs,x.phis.length<=1048576/\∀p∈x.phis,p.args.length<=1048576))(hB:B<=w.heap.size)(hg:Hid (Zdn xs n)) :
 Calls Tryz.prog 25 #[.agg #[.int .i64 v,.slice a n c]] w fun e w'=>e=.returned (.bool (Km ⟨v,xs⟩))/\Below w.heap.size w w':=by
 go_enter Tryz.func25,Tryz.ntmps25
 go_wp2_with fail
 refine(U8 v a n c xs L B _ ?q1 hx hn ?q2 hg).mono ?_
 case q1=>exact ha.keep (Xb (Below.refl _ _) _ |>.mono hB)
 case q2=>simp;omega
 rintro e w1 ⟨pa,pc,rfl,hb1,hp1⟩;have hB1:=Xi (Xb (Below.refl w.heap.size w) _) hb1;have hz1:=hb1.size;simp at hz1;obtain⟨hc1,hf1⟩:=ZbL hb1;have k0:w1.cell? ⟨w.heap.size,0,none⟩=some (.int .i64 v):=by rw[hc1 _ _ (by simp)];simp
 have k1:w1.cell? ⟨w.heap.size,1,none⟩=some (.slice a n c):=by rw[hc1 _ _ (by simp)];simp
 have HA:=Xa (ha.keep (hB1.mono hB));have HPR:=Xa hp1;have HB1:=Xa hB1;clear hc1 hf1 hp1 hb1 ha hB1;go_wp2
 go_loopw [15] (fun i wr=>∃k:Nat,k<=n/\i=.int .i64 k/\Below w1.heap.size w1 wr/\Hid (∀j (h:j<xs.length),j<k->xs[j].phis.all (Zd v (predsFrom xs 0 (j:Int)).length)=true)) (fun i _=>n-(intOf i).toNat)
 case atStart=>exact⟨0,Nat.zero_le _,rfl,Below.refl _ _,fun j _ h=>absurd h (by omega)⟩
 case round =>
  obtain⟨k,hk,rfl,hw,hall⟩:=hrel;by_cases hlt:k<n
  ·have hkx:k<xs.length:=by have:=hx.out;omega
   obtain⟨b,o,rfl,⟨_,hbB⟩,hc⟩:=HA.out k hkx;obtain⟨pa',pc',ia,ic,d0,d1,⟨d2,d3,d4,d5⟩,hp,_⟩:=hc;have e0:=(Zg hw (by omega)).trans d0;have e1:=(Zg hw (by omega)).trans d1;have e2:=(Zg hw (by omega)).trans d2;have e3:=(Zg hw (by omega)).trans d3;have e4:=(Zg hw (by omega)).trans d4;have e5:=(Zg hw (by omega)).trans d5;obtain⟨hl1,hl2⟩:=hl.out _ (List.getElem_mem hkx);have HL2:=Xa hl2;have hno:Hid (xs[k].phis.all (Zd v (predsFrom xs 0 (k:Int)).length)=false->Km ⟨v,xs⟩=false):=fun h=>UQ Zd ⟨v,xs⟩ (k:=k) hkx h
   have hlen:k<((List.range n).map fun i:Nat=>predsFrom xs 0 (i:Int)).length:=by simpa using hlt
   obtain⟨gb,go,rfl,⟨_,hgB⟩,a',c',f0,hii⟩:=HPR.out k hlen;simp only[List.getElem_map,List.getElem_range]at f0;have HP:=Xa hp;have hnl:(predsFrom xs 0 (k:Int)).length<=1048576:=by have:=Zl (k:Int) xs 0;have:=hx.out;omega
   have HF0:=Xa f0;have hwz:=hw.size;have hyes:Hid (xs[k].phis.all (Zd v (predsFrom xs 0 (k:Int)).length)=true->∀j (h:j<xs.length),j<k+1->xs[j].phis.all (Zd v (predsFrom xs 0 (j:Int)).length)=true) :=
    fun h j hj hjk=>if e:j=k then by subst e;exact h else hall.out j hj (by omega)
   clear hp hl2 f0 hii hlen d0 d1 d2 d3 d4 d5;generalize xs[k]=X at *;generalize predsFrom xs 0 (k:Int)=ps at *;go_wp2;generalize hM:wr.heap.size=M at *;have HM:=Xa hM;clear hM
   go_loopw [23] (fun i wi=>∃j:Nat,j<=X.phis.length/\i=.int .i64 j/\Below w1.heap.size w1 wi/\Hid ((X.phis.take j).all (Zd v ps.length)=true)) (fun i _=>X.phis.length-(intOf i).toNat)
   case atStart=>exact⟨0,Nat.zero_le _,rfl,Xb hw _,rfl⟩
   case round =>
    obtain⟨j,hj,rfl,hwi,halli⟩:=hrel;have f0:=(Zg hwi (by omega)).trans HF0.out;have k0':=(Zg hwi (by omega)).trans k0;by_cases hjt:j<X.phis.length
    ·obtain⟨b',o',rfl,⟨_,hbB'⟩,aa,cc,g0,g1,hi⟩:=HP.out j hjt
     have e6:=(Zg hwi (by omega)).trans g0;have e7:=(Zg hwi (by omega)).trans g1;have hal:=HL2.out _ (List.getElem_mem hjt);have hno2:=Xa (fun h=>Xr hno (Ju (p:=Zd v ps.length) (xs:=X.phis) (k:=j) hjt h));have hyes2:=Xa (fun h=>XO (p:=Zd v ps.length) hjt halli.out h);have HIA:=Xa hi;clear g0 g1 hi;generalize X.phis[j]=P at *;have hq1:w.heap.size<wr.heap.size:=by have:=hwi.size;omega
     have hq2:gb<wr.heap.size:=by have:=hwi.size;omega
     have hPS:Hid (Zd v ps.length P=(K0 true P.dst 0 v&&(decide (1<=P.args.length)&&decide (P.args.length=ps.length)&&P.args.all (K8 0 v)))):=rfl;cases hf:K0 true P.dst 0 v
     ·have HF:=Xa hf
      go_wp2
      go_quiet ((go_at_call 44;exact Calls.quiet_of_same (XY _ _ _ _ _)))
      go_wp2
      go_ret
      exact⟨Xg (Xr hno2 (by rw[hPS.out,HF.out];rfl)).symm,Xi HB1.out (below_drewN (Xb hwi _) _)⟩
     ·have HF:=Xa hf
      by_cases h0:P.args.length=0
      ·have h0':((P.args.length:Int)==0)=true:=by simp[h0]
       have H0:=Xa h0;clear h0;go_wp2
       go_quiet ((go_at_call 44;exact Calls.quiet_of_same (XY _ _ _ _ _)))
       go_wp2
       go_ret
       exact⟨Xg (Xr hno2 (by rw[hPS.out,HF.out,H0.out];rfl)).symm,Xi HB1.out (below_drewN (Xb hwi _) _)⟩
      ·have h0':((P.args.length:Int)==0)=false:=by rw[beq_eq_false_iff_ne];omega
       have H0:=Xa h0;clear h0;by_cases h1:P.args.length=ps.length
       ·have h1':((P.args.length:Int) != (ps.length:Int))=false:=by simp[h1]
        have H1:=Xa h1;clear h1;go_wp2
        go_quiet ((go_at_call 44;exact Calls.quiet_of_same (XY _ _ _ _ _)))
        go_wp2;have hb9:=below_drewN (Xb hwi (.cells #[.int .i64 P.dst,.slice aa P.args.length cc] 46)) nq;generalize (wr.alloc (.cells #[.int .i64 P.dst,.slice aa P.args.length cc] 46)).drewN nq=w9 at *;have r0:=(Zg hb9 (by omega)).trans k0;clear hf h0' h1' f0 k0' e6 e7
        go_loop [53] (fun i=>∃q:Nat,q<=P.args.length/\i=.int .i64 q/\Hid ((P.args.take q).all (K8 0 v)=true)) (fun i=>P.args.length-(intOf i).toNat)
        case atStart=>exact⟨0,Nat.zero_le _,rfl,rfl⟩
        case round =>
         obtain⟨q,hq,rfl,hallq⟩:=hrel;by_cases hqt:q<P.args.length
         ·obtain⟨b2,o2,rfl,⟨_,hb2⟩,hc2⟩:=HIA.out q hqt
          have r1:=(Zg hb9 (by omega)).trans hc2;have hno3:=Xa (fun h=>Ju (p:=K8 0 v) (xs:=P.args) (k:=q) hqt h);have hyes3:=Xa (fun h=>XO (p:=K8 0 v) hqt hallq.out h);clear hc2;generalize P.args[q]=A at *;have hfA:Hid (K0 true A 0 v=K8 0 v A):=rfl;cases hr:K0 true A 0 v
          ·have HR:=Xa hr
           go_wp2_with (go_at_call 44;refine(XY _ _ _ _ _).mono ?_;rintro e w2 ⟨rfl,hw2⟩;rw[hw2];clear hw2 w2)
           go_ret
           exact⟨Xg (Xr hno2 (by rw[hPS.out,Xr hno3 (by rw[<-hfA.out];exact HR.out)];simp)).symm,Xi HB1.out hb9⟩
          ·have HR:=Xa hr
           go_wp2_with (go_at_call 44;refine(XY _ _ _ _ _).mono ?_;rintro e w2 ⟨rfl,hw2⟩;rw[hw2];clear hw2 w2)
           go_round
           case rel=>exact⟨q+1,by omega,by go_num,Xr hyes3 (by rw[<-hfA.out];exact HR.out)⟩
           case measure=>simp[intOf];omega
         ·go_wp2
          exact⟨⟨j+1,by omega,by go_num,hb9,Xr hyes2 (by
           have h1:=H1.out;have h0:=H0.out;rw[hPS.out,HF.out,decide_eq_true h1,decide_eq_true (p:=1<=P.args.length) (by omega),Ys (xs:=P.args) (k:=q) (by omega) hallq.out];rfl)⟩,by simp[intOf];omega⟩
       ·have h1':((P.args.length:Int) != (ps.length:Int))=true:=by rw[bne_iff_ne];omega
        have H1:=Xa h1;clear h1;go_wp2
        go_quiet ((go_at_call 44;exact Calls.quiet_of_same (XY _ _ _ _ _)))
        go_wp2
        go_ret
        exact⟨Xg (Xr hno2 (by rw[hPS.out,HF.out,decide_eq_false H1.out];simp)).symm,Xi HB1.out (below_drewN (Xb hwi _) _)⟩
    ·go_wp2
     exact⟨⟨k+1,by omega,by go_num,hwi,Xr hyes (Ys (xs:=X.phis) (k:=j) (by omega) halli.out)⟩,by simp[intOf];omega⟩
  ·go_wp2
   go_ret
   exact⟨Xg (by
    symm;exact(Z7 Zd ⟨v,xs⟩ xs 0).2 (fun j hj=>by rw[Nat.zero_add];exact hall.out j hj (by have:=hx.out;omega))),Xi HB1.out hw⟩
theorem Zaz{v:Int}{xs:List Xf}(h:ZR ⟨v,xs⟩=true):Zdn xs xs.length:=by
 intro x hx;have h1:Zx v xs.length x.term=true:=List.all_eq_true.1 h x hx;simp only[Zx,Ze,Bool.and_eq_true,decide_eq_true_eq]at h1;obtain⟨⟨⟨⟨⟨h2,h3⟩,h4⟩,h5⟩,h6⟩,h7⟩:=h1;have hc:x.term.kind=1\/x.term.kind=2\/x.term.kind=3:=by omega
 rcases hc with e | e | e
 ·simp only[e,K0]at h5
  simp[XN.targets,e]at h5 |-;omega
 ·simp only[e,K0]at h5 h6 h7
  simp[XN.targets,e]at h5 h6 h7 |-;refine⟨?_,h7⟩;omega
 ·simp[XN.targets,e]
theorem Ze6{m:Nat}{xs:List Xf}(h:YV ⟨m,xs⟩=true)(k:Km ⟨m,xs⟩=true):Zhq xs m:=by
 intro x hx;constructor
 ·intro p hp
  obtain⟨j,hj,rfl⟩:=List.getElem_of_mem hx;have h1:=(Z7 Zd ⟨m,xs⟩ xs 0).1 k j hj;have h2:=List.all_eq_true.1 h1 p hp;simp only[Zd,K0,Bool.and_eq_true,decide_eq_true_eq,if_true]at h2;exact h2.1
 ·intro y hy
  have h1:=List.all_eq_true.1 (List.all_eq_true.1 h x hx) y hy;simp only[Yb,Bool.and_eq_true,decide_eq_true_eq]at h1;obtain⟨⟨⟨⟨⟨h2,h3⟩,h4⟩,_⟩,_⟩,_⟩:=h1;refine⟨h2,h3,fun hd=>?_⟩;rw[hd]at h4;simpa [K0]using h4
theorem Uo(xs:List Xf):Xk xs=xs.length+Xn xs:=by
 induction xs with
 | nil=>rfl
 | cons x xs ih =>
  have h1:Xk (x::xs)=TX x+Xk xs:=by simp[Xk]
  have h2:Xn (x::xs)=YF x+Xn xs:=by simp[Xn]
  have h3:XF x.phis=x.phis.length+YC x.phis:=by
   generalize x.phis=ps
   induction ps with
   | nil=>rfl
   | cons p ps ih=>simp only[XF,YC,List.map_cons,List.sum_cons,List.length_cons]at ih |-;omega
  rw[h1,h2,ih,List.length_cons];simp only[TX,YF];omega
theorem ZcS{xs:List Xf}{x:Xf}(h:x∈xs):x.phis.length+YC x.phis+x.instrs.length<=Xn xs:=by
 induction xs with
 | nil=>cases h
 | cons y ys ih =>
  have h2:Xn (y::ys)=YF y+Xn ys:=by simp[Xn]
  rcases List.mem_cons.1 h with rfl | h
  ·rw[h2];simp only[YF];omega
  ·have:=ih h;omega
theorem Zhm{ps:List Ph}{p:Ph}(h:p∈ps):p.args.length<=YC ps:=by
 induction ps with
 | nil=>cases h
 | cons y ys ih =>
  have h2:YC (y::ys)=y.args.length+YC ys:=by simp[YC]
  rcases List.mem_cons.1 h with rfl | h
  ·omega
  ·have:=ih h;omega
theorem V3{xs:List Xf}(h:xs.length+Xn xs<=1048576):ZhH xs:=fun x hx=>by
 have h1:=ZcS hx;exact⟨by omega,by omega,fun p hp=>by have:=Zhm hp;omega⟩
theorem YU(v:Int)(a:Option Addr)(n c:Nat)(xs:List Xf)(L B:Nat)(w:World)(ha:Hid (X8 w L B a xs))(hx:Hid (n=xs.length))(hs:Hid (xs.length+Xn xs<=1048576))(hB:B<=w.heap.size)(hO:Hid (Ue w))(hT:Hid (TF w)) :
 Calls Tryz.prog 7 #[.agg #[.int .i64 v,.slice a n c]] w fun e w'=>e=.returned (.bool (Ki ⟨v,xs⟩))/\Below w.heap.size w w':=by
 have hn:n<=1048576:=by have:=hx.out;have:=hs.out;omega
 have hbs:Xk xs<=1048576:=by rw[Uo];exact hs.out
 have hlen:=Xa (V3 hs.out);have ha1:=fun o=>ha.keep ((Xb (Below.refl w.heap.size w) o).mono hB)
 have HBS:=Xa hbs;clear hbs;have hV:Hid (Ki ⟨v,xs⟩=(Yz ⟨v,xs⟩ && ZR ⟨v,xs⟩ && YV ⟨v,xs⟩ && Km ⟨v,xs⟩ && TH ⟨v,xs⟩)):=rfl;cases h1:Yz ⟨v,xs⟩
 ·have H1:=Xa h1
  have hA1:=Xa ha1;clear h1 ha1
  go_enter Tryz.func7,Tryz.ntmps7
  go_wp2_with fail
  refine(Tr v a n c xs L B _ (Xr hA1 _) hx hn HBS.out (by simp;omega)).mono ?_;rintro e w1 ⟨rfl,hb1⟩;rw[Xr H1];go_wp2
  go_ret
  exact⟨Xg (by rw[hV.out,H1.out];rfl),Xi (Xb (Below.refl _ _) _) hb1⟩
 have H1:=Xa h1;have hA1:=Xa ha1;clear h1 ha1;have hv0:0<=v/\v<=2000:=by
  have h:=H1.out;simp only[Yz,Bool.and_eq_true,decide_eq_true_eq]at h;omega
 obtain⟨m,rfl⟩:=Int.eq_ofNat_of_zero_le hv0.1;have hm:m<=2000:=by omega
 clear hv0
 go_enter Tryz.func7,Tryz.ntmps7
 go_wp2_with fail
 refine(Tr m a n c xs L B _ (Xr hA1 _) hx hn HBS.out (by simp;omega)).mono ?_;rintro e w1 ⟨rfl,hb1⟩;rw[Xr H1];obtain⟨hc1,hf1⟩:=ZbL hb1;have k0:w1.cell? ⟨w.heap.size,0,none⟩=some (.int .i64 m):=by rw[hc1 _ _ (by simp)];simp
 have k1:w1.cell? ⟨w.heap.size,1,none⟩=some (.slice a n c):=by rw[hc1 _ _ (by simp)];simp
 have B1:=Xi (Xb (Below.refl w.heap.size w) _) hb1;have hz1:=hb1.size;simp at hz1;have hA:=Xa (ha.keep (B1.mono hB));have hO1:=Xa (hO.keep B1);have hT1:=Xa (hT.keep B1);have HB1:=Xa B1;clear hc1 hf1 hb1 hA1 B1
 go_wp2_with fail
 refine(Vw m a n c xs L B _ hA hx hn (by omega) hT1).mono ?_;rintro e w2 ⟨rfl,hb2⟩;cases h2:ZR ⟨m,xs⟩
 ·have H2:=Xa h2
  clear h2;go_wp2
  go_ret
  exact⟨Xg (by rw[hV.out,H1.out,H2.out];rfl),Xi HB1.out hb2⟩
 have H2:=Xa h2;clear h2;have hg:=Xa (Zaz H2.out);rw[<-hx.out]at hg;have k0':=(Zg hb2 (by omega)).trans k0;have k1':=(Zg hb2 (by omega)).trans k1;have hz2:=hb2.size;have hA2:=Xa (hA.keep (hb2.mono (by omega)));have hO2:=Xa (hO1.keep hb2);have HB2:=Xa (Xi HB1.out hb2);clear hb2 k0 k1
 go_wp2_with fail
 refine(Vj m a n c xs L B _ hA2 hx hn (fun x h=>(hlen.out x h).2.1) (by omega) hO2).mono ?_;rintro e w3 ⟨rfl,hb3⟩;cases h3:YV ⟨m,xs⟩
 ·have H3:=Xa h3
  clear h3;go_wp2
  go_ret
  exact⟨Xg (by rw[hV.out,H1.out,H2.out,H3.out];rfl),Xi HB2.out hb3⟩
 have H3:=Xa h3;clear h3;have q0:=(Zg hb3 (by omega)).trans k0';have q1:=(Zg hb3 (by omega)).trans k1';have hz3:=hb3.size;have hA3:=Xa (hA2.keep (hb3.mono (by omega)));have hO3:=Xa (hO2.keep hb3);have HB3:=Xa (Xi HB2.out hb3);clear hb3 k0' k1'
 go_wp2_with fail
 refine(Wj m a n c xs L B _ hA3 hx hn (fun x h=>⟨(hlen.out x h).1,(hlen.out x h).2.2⟩) (by omega) hg).mono ?_;rintro e w4 ⟨rfl,hb4⟩;cases h4:Km ⟨m,xs⟩
 ·have H4:=Xa h4
  clear h4;go_wp2
  go_ret
  exact⟨Xg (by rw[hV.out,H1.out,H2.out,H3.out,H4.out];rfl),Xi HB3.out hb4⟩
 have H4:=Xa h4;clear h4;have r0:=(Zg hb4 (by omega)).trans q0;have r1:=(Zg hb4 (by omega)).trans q1;have hz4:=hb4.size;have hA4:=Xa (hA3.keep (hb4.mono (by omega)));have hO4:=Xa (hO3.keep hb4);have HB4:=Xa (Xi HB3.out hb4);clear hb4 q0 q1
 go_wp2_with fail
 refine(Vc m a n c xs L B _ hA4 hx hn hm (show Xn xs<=1048576 by have:=hs.out;omega) (by omega) hO4 (Ze6 H3.out H4.out)).mono ?_;rintro e w5 ⟨rfl,hb5⟩;go_wp2
 go_ret
 exact⟨Xg (by rw[hV.out,H1.out,H2.out,H3.out,H4.out];simp),Xi HB4.out hb5⟩
end Go.Proofs.YtkehcdfalcakmaaGreatDoor
namespace Go.Proofs.YtkehcdfalcakmaaGreatDoor
def Zba(xs:List Xf)(k b:Nat):List Nat:=(List.range k).filter fun j=>decide (b∈Ji xs j)
theorem ZdZ{xs:List Xf}{n b s:Nat}:s∈Zba xs n b↔s<n/\b∈Ji xs s:=by
 unfold Zba;rw[List.mem_filter,List.mem_range,decide_eq_true_eq]
def Zgy(xs:List Xf):(Nat->Nat) × List Nat:=dfsV (Ji xs) xs.length 0 (fun _=>0,[])
def ZgF(xs:List Xf):List Nat:=(Zgy xs).2.reverse
structure OkF(xs:List Xf):Prop where
 n1:1<=xs.length
 n2:xs.length<=1000
 tgt:∀x∈xs,∀t∈x.term.targets,0<=t/\t<xs.length
 ok:Zdn xs xs.length
theorem OkF.tg{xs:List Xf}(h:OkF xs):∀b,b<xs.length->∀t∈Ji xs b,t<xs.length:=fun b hb t ht=>by
 rw[Zci hb]at ht;obtain⟨z,hz,rfl⟩:=List.mem_map.1 ht;have:=h.tgt _ (List.getElem_mem hb) z hz;omega
theorem OkF.re{xs:List Xf}(h:OkF xs):∀x,Re (Ji xs) x->x<xs.length:=fun x hx=>by
 induction hx with
 | root=>exact h.n1
 | step _ ht ih=>exact h.tg _ ih _ ht
theorem OkF.top{xs:List Xf}(h:OkF xs):(∀x,x∈ZgF xs↔Re (Ji xs) x)/\(∀x,XS (Zgy xs).1 x=true↔Re (Ji xs) x)/\(ZgF xs).Nodup/\∀x a,K9 (Ji xs) a x->a≠x->Bef (ZgF xs) a x:=by
 obtain⟨h1,h2,h3,h4⟩:=ZgI h.tg h.n1 (Nat.le_refl xs.length);refine⟨fun x=>?_,h2,?_,fun x a hd hne=>Zb4 (h4 x a hd hne)⟩
 ·show x∈(Zgy xs).2.reverse↔_
  rw[List.mem_reverse];exact h1 x
 ·show((Zgy xs).2.reverse).Nodup
  exact List.pairwise_reverse.2 (h3.imp (fun hne e=>hne e.symm))
theorem OkF.av{xs:List Xf}(h:OkF xs){Ws:Nat->Nat->Nat}(hw:∀b,b<xs.length->∀x,x<xs.length->(XS (Ws b) x=true↔Sp (Iav xs.length) (Tse xs.length) (·∈ZgF xs) (fun b=>((List.range xs.length).map (Zba xs xs.length)).getD b []) b x)):∀b,b<xs.length->∀x,x<xs.length->(XS (Ws b) x=true↔Av (Ji xs) x b):=fun b hb x hx=>by
 rw[hw b hb x hx];refine Zif (n:=xs.length) (fun b x hx=>ZgT hx) (fun b x _ hb=>ZgN hb) (fun b=>h.top.1 b) h.re (fun b s hb=>?_) hx;have e:((List.range xs.length).map (Zba xs xs.length)).getD b []=Zba xs xs.length b:=by simp[hb]
 rw[e];exact ZdZ
end Go.Proofs.YtkehcdfalcakmaaGreatDoor
namespace Go.Proofs.YtkehcdfalcakmaaGreatDoor
open Go.RowKit
structure FrO(w w':World)(v v':Value):Prop where
 os:w'.os=w.os
 tape:w'.tape=w.tape
 output:w'.output=w.output
 size:w.heap.size<=w'.heap.size
 block:∀k,k<w.heap.size->some k≠v.ownBlock->w'.heap[k]?=w.heap[k]?
 own:v'.ownBlock=v.ownBlock\/∀k,v'.ownBlock=some k->w.heap.size<=k
theorem FrO.refl(w:World)(v:Value):FrO w w v v:=⟨rfl,rfl,rfl,Nat.le_refl _,fun _ _ _=>rfl,Or.inl rfl⟩
theorem FrO.trans{w w1 w2:World}{v v1 v2:Value}(h:FrO w w1 v v1)(k:FrO w1 w2 v1 v2):FrO w w2 v v2:=by
 refine⟨k.os.trans h.os,k.tape.trans h.tape,k.output.trans h.output,Nat.le_trans h.size k.size,fun j h1 h4=>?_,?_⟩
 ·refine(k.block j (Nat.lt_of_lt_of_le h1 h.size) (fun e=>?_)).trans (h.block j h1 h4)
  rcases h.own with ho | ho
  ·exact h4 (by rw[e,ho])
  ·have:=ho j e.symm;omega
 ·rcases k.own with ko | ko
  ·rcases h.own with ho | ho
   ·exact Or.inl (ko.trans ho)
   ·exact Or.inr (fun j e=>ho j (by rw[<-ko];exact e))
  ·exact Or.inr (fun j e=>Nat.le_trans h.size (ko j e))
theorem FrO.below{w w':World}{v v':Value}{BL t s n:Nat}{cs:List Value}(h:FrO w w' v v')(ho:w.ownsRow BL t s v n cs)(hz:BL<=w.heap.size):Below BL w w':=⟨h.os,h.tape,h.output,h.size,fun k hk=>h.block k (by omega) (fun e=>by have:=(ho.lt k e.symm).1;omega)⟩
theorem FrO.push{w w8:World}{v v8:Value}{ob:Obj}(hg:(w.alloc ob).grownBy w8 v.ownBlock)(hat:v8.ownBlock=v.ownBlock\/v8.ownBlock=some (w.heap.size+1)):FrO w w8 v v8:=by
 have hsz:(w.alloc ob).heap.size=w.heap.size+1:=World.size_alloc _ _;have hgs:=hg.size;refine⟨hg.os,hg.tape,hg.output,by omega,fun k h1 h4=>(hg.block k (by omega) h4).trans (Below.heap_alloc _ _ _ h1),?_⟩;rcases hat with e | e
 ·exact Or.inl e
 ·exact Or.inr (fun k ek=>by rw[e]at ek;injection ek with ek;omega)
end Go.Proofs.YtkehcdfalcakmaaGreatDoor
namespace Go.Proofs.YtkehcdfalcakmaaGreatDoor
open Go.RowKit
theorem Zh{P:Program}{ops:Array Oper}{w:World}{o:Oper}{a:Act}{K:Act->World->Prop}{Q:Exit->Act->World->Prop}{E:Prop}(hgd:o.guard=none)(s x:Operand)(t:TypeId)
 (ho:o.op=.call { callee:=.builtin .append,args:=#[s,x],argTypes:=#[t,t] })
 (base:Nat) (e:TypeId) (i:TypeInfo) (z:Value) (size bytes:Nat) (ht:P.underlying t=some (.slice e)) (hi:P.info? e=some i) (hz:i.zero=some z)
 (hsize:i.size=size) (hby:i.bytes=bytes) (hzs:z.cells.size=size) (hsz:0<size)
 (v:Value) (n:Nat) (xs:List Value) (hs:a.eval s=v) (hown:w.ownsRow base e size v n xs)
 (ad:Addr) (m c:Nat) (news:List Value) (hx:a.eval x=.slice (some ad) m c) (hl:news.length=m*size) (hnews:∀j u,news[j]?=some u->w.cell? (ad.add j)=some u) (h1:∀u∈news,u.oneCell'=true)
 (h63:n+m<=maxLen) (hbytes:(n+m)*bytes<=140737488355328) (hbase:base<=w.heap.size)
 (h:∀v' w',w'.ownsRow base e size v' (n+m) (xs++news)->w.grownBy w' v.ownBlock->(v'=.slice none 0 0↔v=.slice none 0 0/\m=0)->(v'.ownBlock=v.ownBlock\/v'.ownBlock=some w.heap.size)->K (a.put o.dst v') w') :
 if Region.wanted o (yielded ops a.tmps)=true then Oper.wp P o a w K Q else E:=by
 have hw:Region.wanted o (yielded ops a.tmps)=true:=by simp[Region.wanted,hgd]
 rw[if_pos hw];obtain⟨v',w',hr,h2,h3,h4,h5⟩:=run_append_own_at (P:=P) w base t o.type e i z size bytes ht hi hz hsize hby hzs hsz v n xs hown ad m c news hl hnews h1 h63 hbytes hbase;unfold Oper.wp execOp;simp only[ho,resolve,invoke,builtin,Sem.run_bind,Sem.run_pure,Result.andThen_ok,List.map_toArray,List.map_cons,List.map_nil,hs,hx,hr];exact h v' w' h2 h3 h4 h5
theorem Tryz.infoSetI:(Tryz.prog.info? 150).map (fun i=>(i.zero,i.size,i.bytes))=some (some (.agg #[.slice none 0 0]),1,24):=by kernel_rfl
structure FwI(w6 wr:World)(F:Nat)(x2 x3:Value)(U V:Nat->Value)(b1:Nat)(p1:Option Addr)(c1 b2:Nat)(p2:Option Addr)(c2:Nat):Prop where
 e0:wr.cell? ⟨F,0,none⟩=some (.slice p1 b1 c1)
 e1:wr.cell? ⟨F,1,none⟩=some (.slice p2 b2 c2)
 e2:wr.cell? ⟨F,2,none⟩=some x2
 e3:wr.cell? ⟨F,3,none⟩=some x3
 thaw:∀q,wr.frozen? ⟨F,q,none⟩=false
 bel:Below F w6 wr
 lt:F<wr.heap.size
 le:F=w6.heap.size
 o1:wr.ownsRow (F+1) 150 1 (.slice p1 b1 c1) b1 ((List.range b1).map U)
 o2:wr.ownsRow (F+1) 4 1 (.slice p2 b2 c2) b2 ((List.range b2).map V)
 dj:(Value.slice p1 b1 c1).ownBlock=none\/(Value.slice p1 b1 c1).ownBlock≠(Value.slice p2 b2 c2).ownBlock
section
variable {w6 wr wr' : World} {F : Nat} {x2 x3 : Value} {U V : Nat -> Value} {b1 : Nat} {p1 : Option Addr} {c1 b2 : Nat} {p2 : Option Addr} {c2 : Nat}
theorem FwI.below(h:FwI w6 wr F x2 x3 U V b1 p1 c1 b2 p2 c2)(k:Below wr.heap.size wr wr'):FwI w6 wr' F x2 x3 U V b1 p1 c1 b2 p2 c2:=by
 have hb:=k.block F h.lt;have ce:∀q,wr'.cell? ⟨F,q,none⟩=wr.cell? ⟨F,q,none⟩:=fun q=>World.cell?_of_block hb
 have own:∀{t v n cs},wr.ownsRow (F+1) t 1 v n cs->wr'.ownsRow (F+1) t 1 v n cs:=fun {t v n cs} ho=>by
  refine ho.kept (row:=none) ⟨k.os,k.tape,k.output,k.size,fun j hj _=>k.block j hj⟩ ?_;cases v.ownBlock with
  | none=>exact Or.inl rfl
  | some j=>exact Or.inr (by simp)
 exact⟨(ce 0).trans h.e0,(ce 1).trans h.e1,(ce 2).trans h.e2,(ce 3).trans h.e3,fun q=>(World.frozen?_of_block hb).trans (h.thaw q),h.bel.trans (k.mono (Nat.le_of_lt h.lt)),Nat.lt_of_lt_of_le h.lt k.size,h.le,own h.o1,own h.o2,h.dj⟩
theorem ZfN{w:World}{B t s n:Nat}{v:Value}{cs:List Value}(h:w.ownsRow B t s v n cs):w.drew.ownsRow B t s v n cs:=h
end
end Go.Proofs.YtkehcdfalcakmaaGreatDoor
namespace Go.Proofs.YtkehcdfalcakmaaGreatDoor
set_option maxHeartbeats 4000000
open Go.RowKit
theorem Tt(op dst a b imm n most:Int)(w:World) :
 Calls Tryz.prog 17 #[.agg #[.int .i64 op,.int .i64 dst,.int .i64 a,.int .i64 b,.int .i64 imm],.int .i64 n,.int .i64 most] w fun e w'=>e=.returned (.bool (Yb n most ⟨op,dst,a,b,imm⟩))/\Below w.heap.size w w':=by
 by_cases h:1<=op/\op<=most
 ·obtain⟨h1,h2⟩:=h
  go_enter Tryz.func17,Tryz.ntmps17
  go_wp2_with fail
  refine(Zbm _ _).mono ?_;rintro e w1 ⟨rfl,rfl⟩
  go_wp2_with fail
  refine(Zfd _ _).mono ?_;rintro e w1 ⟨rfl,rfl⟩
  go_wp2_with fail
  refine(Zhg _ _).mono ?_;rintro e w1 ⟨rfl,rfl⟩;go_wp2
  all_goals
   go_ret
   refine⟨Xg ?_,Xb (Below.refl _ _) _⟩
   first | (simp[Yb,K0,KV, *];done) | (simp[Yb,K0,KV, *];omega) | (rw[Bool.eq_iff_iff];simp[Yb,K0,KV, *];omega)
 ·go_enter Tryz.func17,Tryz.ntmps17
  go_wp2
  all_goals
   go_ret
   refine⟨Xg ?_,Xb (Below.refl _ _) _⟩;symm;unfold Yb;by_cases h1:1<=op
   ·rw[decide_eq_false (p:=op<=most) (by omega)];simp
   ·rw[decide_eq_false (p:=1<=op) h1];simp
end Go.Proofs.YtkehcdfalcakmaaGreatDoor
namespace Go.Proofs.YtkehcdfalcakmaaGreatDoor
set_option maxRecDepth 100000
set_option maxHeartbeats 8000000
open Go.RowKit
attribute [local go_sem ↓] Go.wp_at_zero Go.wp_at_succ
def Kt(v:Int)(n:Nat)(x:Xf):Bool:=x.instrs.all (Yb v 10)&&Zx v n x.term
theorem ZgJ(F:Fn):(YV F&&ZR F)=F.blocks.all (Kt F.values F.blocks.length):=by
 rw[show F.blocks.all (Kt F.values F.blocks.length)=F.blocks.all (fun x=>x.instrs.all (Yb F.values 10)&&Zx F.values F.blocks.length x.term) from rfl,Zdw];rfl
theorem Wr(v:Int)(a:Option Addr)(n c:Nat)(xs:List Xf)(L B:Nat)(w:World)(ha:Hid (X8 w L B a xs))(hx:Hid (n=xs.length))(hn:n<=1048576)(hbs:Hid (Xk xs<=1048576))(hB:B<=w.heap.size)
 (h:Hid (¬(0<=v/\v<=2000/\1<=n/\n<=1000/\Xk xs<=4000))) :
 Calls Tryz.prog 6 #[.agg #[.int .i64 v,.slice a n c]] w fun e w'=>e=.returned (.bool false)/\Below w.heap.size w w':=by
 by_cases hd:0<=v/\v<=2000/\1<=n/\n<=1000
 ·obtain⟨d0,d1,d2,d3⟩:=hd
  have hsz:4000<Xk xs:=by have:=h.out;omega
  go_enter Tryz.func6,Tryz.ntmps6
  go_wp2_with fail
  refine(Wb v a n c xs L B _ ?q1 hx hn hbs.out ?q2).mono ?_
  case q1=>exact ha.keep (Xb (Below.refl _ _) _ |>.mono hB)
  case q2=>simp;omega
  rintro e w1 ⟨rfl,hb1⟩;go_wp2
  go_ret
  exact⟨rfl,Xi (Xb (Below.refl _ _) _) hb1⟩
 ·have hd':v<0\/(0<=v/\2000<v)\/(0<=v/\v<=2000/\n<1)\/(0<=v/\v<=2000/\1<=n/\1000<n):=by omega
  clear hd;rcases hd' with d | ⟨d,d1⟩ | ⟨d,d1,d2⟩ | ⟨d,d1,d2,d3⟩
  all_goals
   go_enter Tryz.func6,Tryz.ntmps6
   go_wp2
   go_ret
   exact⟨rfl,Xb (Below.refl _ _) _⟩
end Go.Proofs.YtkehcdfalcakmaaGreatDoor
