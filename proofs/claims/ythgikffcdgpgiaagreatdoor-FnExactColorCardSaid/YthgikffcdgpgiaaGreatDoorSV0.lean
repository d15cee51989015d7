import Derived.Test.YthgikffcdgpgiaaGreatDoorSP0
import Derived.Test.YthgikffcdgpgiaaGreatDoorWS0
import Derived.Test.YthgikffcdgpgiaaGreatDoorW14b
namespace Go.Proofs.YthgikffcdgpgiaaGreatDoor
open Go.RowKit
structure SetsAv (w:World) (G n K:Nat) (gs cp:Nat→Nat) (Ws:Nat→Nat→Nat):Prop where
 row:w.rowIs G 75 n (fun i=>.slice (some ⟨gs i,0,none⟩) K (cp i))
 set:∀i,i<n→WsAt w (gs i) K (cp i) (Ws i)
 inj:∀i j,i<n→j<n→gs i=gs j→i=j
 out:∀i,i<n→gs i≠G
theorem Tryz.infoSetV:(Tryz.prog.info? 75).map (fun i=>(i.zero,i.size,i.bytes))=some (some (.agg #[.slice none 0 0]),1,24):=by kernel_rfl
structure SetsTv (w wr:World) (G n K q:Nat) (gs:Nat→Nat):Prop where
 low:Below w.heap.size w wr
 base:w.heap.size≤G
 row:wr.rowIs G 75 n (fun i=>if i<q then .slice (some ⟨gs i,0,none⟩) K K else .slice none 0 0)
 set:∀i,i<q→wr.rowIs (gs i) 133 K (fun _=>.int .u64 ((0:Nat):Int))
 inj:∀i j,i<q→j<q→gs i=gs j→i=j
 up:∀i,i<q→G<gs i
theorem SetsTv.next {w wr w1:World} {G n K q g:Nat} {gs:Nat→Nat} (h:SetsTv w wr G n K q gs) (hq:q<n) (hb:Below wr.heap.size wr w1) (hg:wr.heap.size≤g) (hr:w1.rowIs g 133 K (fun _=>.int .u64 ((0:Nat):Int))) :
  SetsTv w (w1.setCell ⟨G,q,none⟩ (.slice (some ⟨g,0,none⟩) K K)) G n K (q+1) (fun i=>if i=q then g else gs i)∧w1.cell? ⟨G,q,none⟩=some (.slice none 0 0)∧w1.frozen? ⟨G,q,none⟩=false:=by
 have hGl:G<wr.heap.size:=h.row.lt
 have hrow:w1.rowIs G 75 n (fun i=>if i<q then .slice (some ⟨gs i,0,none⟩) K K else .slice none 0 0):=h.row.of_block (hb.block G hGl)
 have hgl:∀i,i<q→gs i<wr.heap.size:=fun i hi=>(h.set i hi).lt
 refine ⟨⟨(h.low.trans (hb.mono h.low.size)).setCell h.base _,h.base,(hrow.set q _).congr (fun i _=>?_),fun i hi=>?_,fun i j hi hj e=>?_,fun i hi=>?_⟩,(hrow.cell hq).trans (by simp),hrow.frozen q⟩
 ·by_cases e:i=q
  ·subst e;simp
  ·rw [if_neg e]
   by_cases e2:i<q
   ·rw [if_pos e2,if_pos (by omega)];simp [e]
   ·rw [if_neg e2,if_neg (by omega)]
 ·by_cases e:i=q
  ·rw [if_pos e];exact hr.setOther (by show g≠G;omega) _
  ·rw [if_neg e]
   have:=h.up i (by omega)
   exact ((h.set i (by omega)).of_block (hb.block _ (hgl i (by omega)))).setOther (by show gs i≠G;omega) _
 ·by_cases e1:i=q
  ·by_cases e2:j=q
   ·rw [e1,e2]
   ·rw [if_pos e1,if_neg e2] at e
    have:=hgl j (by omega);omega
  ·by_cases e2:j=q
   ·rw [if_neg e1,if_pos e2] at e
    have:=hgl i (by omega);omega
   ·rw [if_neg e1,if_neg e2] at e
    exact h.inj i j (by omega) (by omega) e
 ·by_cases e:i=q
  ·show G<if i=q then g else gs i
   rw [if_pos e];omega
  ·show G<if i=q then g else gs i
   rw [if_neg e];exact h.up i (by omega)
set_option maxHeartbeats 1000000 in
set_option maxRecDepth 100000 in
theorem newSets_valueNo (n room:Nat) (w:World) (hn:n≤1000) (hr:room≤60000) :
  Calls Tryz.prog 96 #[.int .i64 n,.int .i64 room] w fun e w'=>∃G gs,e=.returned (.slice (some ⟨G,0,none⟩) n n)∧w.heap.size≤G∧Below w.heap.size w w'∧SetsAv w' G n ((room+63) / 64) gs (fun _=>(room+63) / 64) (fun _ _=>0)∧(∀i,i<n→w.heap.size≤gs i):=by
 have hmk:=run_makeS (P:=Tryz.prog) 113 75 (.agg #[.slice none 0 0]) 1 24 Tryz.underlying113 Tryz.infoSetV n (by omega) (by omega)
 have HNS:=hide (fun W=>newSet_valueNo room W hr)
 generalize (room+63) / 64=K at *
 go_enter Tryz.func96,Tryz.ntmps96
 go_wp2_with fail
 go_loopw [11] (fun u wr=>∃q:Nat,q≤n∧u=.int .i64 q∧∃gs,Hid (SetsTv w wr w.heap.size n K q gs)) (fun u _=>n-(intOf u).toNat)
 case atStart=>exact ⟨0,Nat.zero_le _,rfl,fun _=>0,hide ⟨balloc (Below.refl _ _) _,Nat.le_refl _,by
  have h:=World.rowIs_made w (.slice none 0 0) n 75
  simpa [Value.cells] using h,fun i hi=>absurd hi (by omega),fun i j hi=>absurd hi (by omega),fun i hi=>absurd hi (by omega)⟩⟩
 case round =>
  obtain ⟨q,hq,rfl,gs,HS⟩:=hrel
  by_cases hlt:q<n
  ·go_wp2_with fail
   refine (HNS.out wr).mono ?_
   rintro e w1 ⟨g,rfl,hg,hb1,hr1⟩
   have hS1:=HS.out.next hlt hb1 hg hr1
   obtain ⟨hS2,hc1,hz1⟩:=hS1
   have HS2:=hide hS2
   clear hS2 hb1 hr1
   go_wp2_with fail
   exact ⟨⟨q+1,by omega,by go_num,_,HS2⟩,by simp [intOf];omega⟩
  ·have hqn:q=n:=by omega
   subst hqn
   go_wp2_with fail
   go_ret
   refine ⟨_,gs,rfl,Nat.le_refl _,HS.out.low,⟨HS.out.row.congr (fun i hi=>by rw [if_pos hi]),fun i hi=>WsAt.of_row (HS.out.set i hi),HS.out.inj,fun i hi e=>by have:=HS.out.up i hi;omega⟩,fun i hi=>by have:=HS.out.up i hi;omega⟩
end Go.Proofs.YthgikffcdgpgiaaGreatDoor

namespace Go.Proofs.YthgikffcdgpgiaaGreatDoor
open Go.RowKit
def IntsP (w:World) (P:Nat→Prop) (a:Option Addr) (xs:List Int):Prop :=
 ∀i (h:i<xs.length),∃b o,a=some ⟨b,o,none⟩∧(P b∧b<w.heap.size)∧w.cell? ⟨b,o+i,none⟩=some (.int .i64 xs[i])
def RowsP (w:World) (P:Nat→Prop) (a:Option Addr) (xss:List (List Int)):Prop :=
 ∀i (h:i<xss.length),∃b o,a=some ⟨b,o,none⟩∧(P b∧b<w.heap.size)∧∃a' c',w.cell? ⟨b,o+i,none⟩=some (.slice a' xss[i].length c')∧IntsP w P a' xss[i]
theorem SetsAv.keep {w w':World} {G n K:Nat} {gs cp:Nat→Nat} {Ws:Nat→Nat→Nat} (h:SetsAv w G n K gs cp Ws) (k:Below w.heap.size w w'):SetsAv w' G n K gs cp Ws :=
 ⟨h.row.of_block (k.block _ h.row.lt),fun i hi=>(h.set i hi).of_block (k.block _ (h.set i hi).lt),h.inj,h.out⟩
theorem SetsAv.wrote {w w':World} {G n K b:Nat} {gs cp:Nat→Nat} {Ws:Nat→Nat→Nat} {W':Nat→Nat} (h:SetsAv w G n K gs cp Ws) (hb:b<n) (k:w.grownBy w' (some (gs b))) (hr:WsAt w' (gs b) K (cp b) W'):SetsAv w' G n K gs cp (fun i=>if i=b then W' else Ws i):=by
 refine ⟨h.row.of_block (k.block _ h.row.lt (fun e=>h.out b hb (by injection e with e;exact e.symm))),fun i hi=>?_,h.inj,h.out⟩
 by_cases e:i=b
 ·subst e
  simpa using hr
 ·simp only [if_neg e]
  exact (h.set i hi).of_block (k.block _ (h.set i hi).lt (fun e2=>e (by injection e2 with e2;exact h.inj i b hi hb e2)))
theorem SetsAv.apart {w w':World} {G2 n K:Nat} {gs gs2 cp2:Nat→Nat} {T:Nat→Nat→Nat} (h:SetsAv w G2 n K gs2 cp2 T) (f:FrS w w' n gs) (h1:∀i,i<n→G2≠gs i) (h2:∀i j,i<n→j<n→gs2 i≠gs j):SetsAv w' G2 n K gs2 cp2 T :=
 ⟨h.row.of_block (f.block _ h.row.lt h1),fun i hi=>(h.set i hi).of_block (f.block _ (h.set i hi).lt (fun j hj=>h2 i j hi hj)),h.inj,h.out⟩
set_option maxHeartbeats 4000000 in
set_option maxRecDepth 100000 in
theorem spread_valueNo (b0 o0 n0 c0:Nat) (ord:List Nat) (L1 B1:Nat) (sa:Option Addr) (ns cs:Nat) (src:List (List Nat)) (G G2 n K:Nat) (gs gs2 cp cp2:Nat→Nat) (I T:Nat→Nat→Nat) (w:World)
  (hord:Hid (IntsAt w L1 B1 (some ⟨b0,o0,none⟩) (natI ord))) (h0:Hid (n0=ord.length)) (hn0:n0≤1000) (hn0':0<n0) (hsrc:Hid (RowsP w (fun k=>∀i,i<n→k≠gs i) sa (src.map natI))) (hs:Hid (ns=src.length)) (hns:Hid (src.length=n)) (hK:K≤100)
  (hB1:B1≤w.heap.size) (HI:Hid (SetsAv w G n K gs cp I)) (HT:Hid (SetsAv w G2 n K gs2 cp2 T)) (hwI:Hid (AllWd I)) (hwT:Hid (AllWd T))
  (d3:Hid (∀i,i<n→G2≠gs i)) (d4:Hid (∀i j,i<n→j<n→gs2 i≠gs j))
  (ho:Hid (∀b∈ord,b<n)) (hsr:Hid (∀l∈src,l.length≤2000∧∀t∈l,t<n)) :
  Calls Tryz.prog 100 #[.slice (some ⟨b0,o0,none⟩) n0 c0,.slice sa ns cs,.slice (some ⟨G,0,none⟩) n n,.slice (some ⟨G2,0,none⟩) n n] w fun e w'=>e=.returned (.tuple #[])∧FrS w w' n gs∧∃Ws,AllWd Ws∧SetsAv w' G n K gs cp Ws∧∀b,b<n→∀x,x<64*K→(hasN (Ws b) x=true↔Sp I T (·∈ord) (fun b=>src.getD b []) b x):=by
 go_enter Tryz.func100,Tryz.ntmps100
 go_wp2_with fail
 go_step3
 go_wp2_with fail
 refine (cloneI_any b0 o0 n0 c0 (natI ord) L1 B1 w hord (hide (by have:=h0.out;simp [natI];omega)) (by omega) hB1).mono ?_
 rintro e w1 ⟨v1,rfl,hb1,hne1,ho1⟩
 obtain ⟨g1,k1,rfl,hg1,hk1⟩:=own_some' ho1 (by have:=h0.out;simp [natI];omega)
 have HB1:=hide hb1
 have HO1:=hide ho1
 have hln:(natI ord).length=n0:=by have:=h0.out;simp [natI];omega
 rw [hln] at HO1
 clear hb1 ho1 hne1
 go_wp2_with fail
 have hg1z:g1<w1.heap.size:=hg1.2
 have hg1b:w.heap.size≤g1:=hg1.1
 refine (reverse_any g1 n0 k1 w.heap.size (natI ord) w1 (by omega) (hide hln.symm) HO1).mono ?_
 rintro e w2 ⟨rfl,hgr2,ho2⟩
 have HB2:Hid (Below w.heap.size w w2):=hide (HB1.out.grown hgr2 HB1.out.size (fun k e=>by cases e;omega))
 have HO2:=hide ho2
 clear hgr2 ho2 HO1 HB1
 go_wp2_with fail
 have HWA:Hid (Below w2.heap.size w2 (w2.alloc (.cells #[.slice (some ⟨b0,o0,none⟩) n0 c0,.slice (some ⟨g1,0,none⟩) n0 k1] 26))):=hide (balloc (Below.refl _ _) _)
 have hq0:(w2.alloc (.cells #[.slice (some ⟨b0,o0,none⟩) n0 c0,.slice (some ⟨g1,0,none⟩) n0 k1] 26)).cell? ⟨w2.heap.size,0,none⟩=some (.slice (some ⟨b0,o0,none⟩) n0 c0):=by simp
 have hq1:(w2.alloc (.cells #[.slice (some ⟨b0,o0,none⟩) n0 c0,.slice (some ⟨g1,0,none⟩) n0 k1] 26)).cell? ⟨w2.heap.size,1,none⟩=some (.slice (some ⟨g1,0,none⟩) n0 k1):=by simp
 generalize w2.alloc (.cells #[.slice (some ⟨b0,o0,none⟩) n0 c0,.slice (some ⟨g1,0,none⟩) n0 k1] 26)=wa at *
 have HBA:Hid (Below w.heap.size w wa):=hide (bnext HB2.out HWA.out)
 have hlr:(natI ord).reverse.length=n0:=by rw [List.length_reverse];exact hln
 have HIR:Hid (IntsAt wa w.heap.size w2.heap.size (some ⟨g1,0,none⟩) (natI ord).reverse):=hide (by
  have h:=HO2.out
  rw [←hlr] at h
  obtain ⟨a',c',e',hi'⟩:=ints_owned h
  injection e' with e1
  subst e1
  exact hi'.keep HWA.out)
 refine (concat2_any w2.heap.size n0 c0 n0 k1 _ _ (natI ord) (natI ord).reverse L1 B1 w.heap.size w2.heap.size wa (hide (hord.out.keep (HBA.out.mono hB1))) HIR (hide hln.symm) (hide hlr.symm) hn0 hn0 (by omega) (by have:=HBA.out.size;omega) HWA.out.size hq0 hq1).mono ?_
 rintro e w3 ⟨v3,rfl,hb3,ho3⟩
 have HB3:Hid (Below w.heap.size w w3):=hide (bnext HBA.out hb3)
 have eR:natI ord++(natI ord).reverse=natI (ord++ord.reverse):=by simp [natI]
 rw [eR] at ho3
 have hRl:(ord++ord.reverse).length=2*n0:=by have:=h0.out;simp;omega
 have hRo:Hid (∀b,b∈ord++ord.reverse↔b∈ord):=hide (fun b=>by simp)
 generalize ord++ord.reverse=R at *
 have hnl:(natI R).length=R.length:=by simp [natI]
 obtain ⟨a3,c3,e3,hi3⟩:=ints_owned ho3
 rw [hnl] at e3
 subst e3
 have HI3:=hide hi3
 have HZ3:Hid (wa.heap.size≤w3.heap.size∧w.heap.size≤wa.heap.size):=hide ⟨hb3.size,HBA.out.size⟩
 clear hb3 ho3 eR hq0 hq1 HIR HWA HO2 HB2 hi3
 have HS3:=hide (HI.out.keep (HB3.out))
 have HT3:=hide (HT.out.keep (HB3.out))
 have hR0:0<R.length:=by omega
 have hR1:R.length≤2000:=by omega
 clear hRl hln hlr hnl
 have HGS:Hid (∀i,i<n→gs i<w.heap.size):=hide (fun i hi=>(HI.out.set i hi).lt)
 go_wp2_with fail
 go_step3
 go_wp2_with fail
 go_loopg [10] (misN I K n) (fun k qv wr=>∃(q:Nat) (W:Nat→Nat→Nat),qv=.int .i64 q∧q<R.length∧Hid (FrS w3 wr n gs)∧Hid (SetsAv wr G n K gs cp W)∧Hid (AllWd W)∧Hid (misN W K n≤k)∧Hid (∀b x,hasN (I b) x=true→hasN (W b) x=true)∧Hid (∀b x,hasN (W b) x=true→Sp I T (·∈ord) (fun b=>src.getD b []) b x)∧Hid (ClQ T K (fun b=>src.getD b []) W R q 0))
 case atStart=>exact ⟨0,I,rfl,hR0,hide (FrS.refl _ _ _),HS3,hwI,hide (Nat.le_refl _),hide (fun _ _ h=>h),hide (fun _ _ h=>Sp.init h),hide clq_none⟩
 case round =>
  obtain ⟨q0,W0,rfl,hq0,HF0,HS0,HW0,HM0,HI0,HSo0,HC0⟩:=hrel
  go_wp2_with fail
  generalize wr=wo at *
  go_loopw [10,26] (fun qv u wr=>∃(q p:Nat) (W:Nat→Nat→Nat),qv=.int .i64 q∧q<R.length∧u=.int .i64 p∧p≤R.length∧Hid (FrS w3 wr n gs)∧Hid (SetsAv wr G n K gs cp W)∧Hid (AllWd W)∧Hid (misN W K n<gk∨(misN W K n≤gk∧q=q0+p))∧Hid (∀b x,hasN (I b) x=true→hasN (W b) x=true)∧Hid (∀b x,hasN (W b) x=true→Sp I T (·∈ord) (fun b=>src.getD b []) b x)∧Hid (ClQ T K (fun b=>src.getD b []) W R q p)) (fun _ u _=>R.length-(intOf u).toNat)
  case atStart=>exact ⟨q0,0,W0,rfl,hq0,rfl,Nat.zero_le _,HF0,HS0,HW0,hide (Or.inr ⟨HM0.out,by omega⟩),HI0,HSo0,HC0⟩
  case round =>
   obtain ⟨q,p,W,rfl,hq,rfl,hp,HF,HS,HW,HM,HIm,HSo,HC⟩:=hrel
   by_cases hlt:p<R.length
   ·obtain ⟨br,or_,rfl,hbr,er3⟩:=HI3.out p (by simpa [natI] using hlt)
    have HFW:Hid (FrS w wr n gs):=hide ⟨HF.out.os.trans HB3.out.os,HF.out.tape.trans HB3.out.tape,HF.out.output.trans HB3.out.output,Nat.le_trans HB3.out.size HF.out.size,fun k h1 h2=>(HF.out.block k (Nat.lt_of_lt_of_le h1 HB3.out.size) h2).trans (HB3.out.block k h1)⟩
    have er:=(cell_of (HF.out.block br hbr.2 (fun i hi e=>by have:=HGS.out i hi;have:=HZ3.out;omega))).trans er3
    have hRp:(natI R)[p]'(by simpa [natI] using hlt)=((R[p]:Nat):Int):=by simp [natI]
    rw [hRp] at er
    have hbn:R[p]<n:=ho.out _ ((hRo.out _).1 (List.getElem_mem hlt))
    have hbo:Hid (R[p]∈ord):=hide ((hRo.out _).1 (List.getElem_mem hlt))
    have hbs:R[p]<src.length:=by have:=hns.out;omega
    obtain ⟨bs,os,hsa,hbs2,as',cs',es,his⟩:=hsrc.out R[p] (by simpa using hbs)
    subst hsa
    have esr:=(cell_of (HFW.out.block bs hbs2.2 hbs2.1)).trans es
    have hsl:((src.map natI)[R[p]]'(by simpa using hbs)).length=src[R[p]].length:=by simp [natI]
    rw [hsl] at esr
    have HSL:=hide (hsr.out src[R[p]] (List.getElem_mem hbs))
    have hls:=HSL.out.1
    have HGD:Hid (src.getD R[p] []=src[R[p]]):=hide (by simp [hbs])
    have HCN:Hid (∀W',(∀i x,x<64*K→hasN (W' i) x=hasN (W i) x)→ClB T K (fun b=>src.getD b []) W R[p]→ClQ T K (fun b=>src.getD b []) W' R (q+1) (p+1)):=hide (fun W' e hb=>clq_next HC.out e hlt hb)
    have hbsn:R[p]<ns:=by have:=hs.out;omega
    have HISw:Hid (IntsP w (fun k=>∀i,i<n→k≠gs i) as' (natI src[R[p]])):=hide (by simpa using his)
    clear er3 es his hRp hsl
    generalize hbb:R[p]=b at *
    clear hbb
    generalize src[b]=sl at *
    go_wp2_with fail
    generalize wr=wo2 at *
    go_loopw [13,35] (fun gv u wq=>∃r:Nat,r≤sl.length∧u=.int .i64 r∧gv=.bool (takesN T K b (sl.take r) (W,false)).2∧Hid (FrS w3 wq n gs)∧Hid (SetsAv wq G n K gs cp (takesN T K b (sl.take r) (W,false)).1)) (fun _ u _=>sl.length-(intOf u).toNat)
    case atStart=>exact ⟨0,Nat.zero_le _,rfl,rfl,HF,HS⟩
    case round =>
     obtain ⟨r,hr,rfl,rfl,HFq,HSq⟩:=hrel
     by_cases hlr:r<sl.length
     ·have HFW2:Hid (FrS w wr n gs):=hide ⟨HFq.out.os.trans HB3.out.os,HFq.out.tape.trans HB3.out.tape,HFq.out.output.trans HB3.out.output,Nat.le_trans HB3.out.size HFq.out.size,fun k h1 h2=>(HFq.out.block k (Nat.lt_of_lt_of_le h1 HB3.out.size) h2).trans (HB3.out.block k h1)⟩
      obtain ⟨b5,o5,rfl,hb5,e5w⟩:=HISw.out r (by simpa [natI] using hlr)
      have e5:=(cell_of (HFW2.out.block b5 hb5.2 hb5.1)).trans e5w
      have hsr5:(natI sl)[r]'(by simpa [natI] using hlr)=((sl[r]:Nat):Int):=by simp [natI]
      rw [hsr5] at e5
      have hsn:sl[r]<n:=HSL.out.2 _ (List.getElem_mem hlr)
      have HTQ:=hide (HT3.out.apart HFq.out d3.out d4.out)
      have HTK:=hide (takes_take (T:=T) (K:=K) (b:=b) hlr (W,false))
      have HWq:=hide (takes_wd (T:=T) (K:=K) (b:=b) (sl.take r) (W,false) HW.out)
      clear e5w hsr5
      generalize sl[r]=s at *
      generalize takesN T K b (sl.take r) (W,false)=sq at *
      obtain ⟨Wq,gq⟩:=sq
      dsimp only at *
      have k1:=HSq.out.row.cell hbn
      have k2:=HSq.out.row.cell hsn
      have k3:=HTQ.out.row.cell hbn
      have HAB:=hide (addBut_valueNo (gs b) (gs s) (gs2 b) K (cp b) (cp s) (cp2 b) (Wq b) (Wq s) (T b) wr.drew (hide (HWq.out b)) (hide (HWq.out s)) (hide (hwT.out b)) (by omega) (hide ((HSq.out.set b hbn).drew)) (hide ((HSq.out.set s hsn).drew)) (hide ((HTQ.out.set b hbn).drew)) (d4.out b b hbn hbn) (hide (fun e=>by rw [HSq.out.inj s b hsn hbn e])))
      have HSD:Hid (SetsAv wr.drew G n K gs cp Wq):=hide ⟨HSq.out.row,fun i hi=>(HSq.out.set i hi).drew,HSq.out.inj,HSq.out.out⟩
      have HFD:Hid (FrS w3 wr.drew n gs):=hide ⟨HFq.out.os,HFq.out.tape,HFq.out.output,HFq.out.size,HFq.out.block⟩
      have HLL:Hid (G<wr.heap.size∧G2<wr.heap.size):=hide ⟨HSq.out.row.lt,HTQ.out.row.lt⟩
      generalize grewN (Wq b) (Wq s) (T b) K=g5 at *
      cases g5 with
      | true =>
       go_wp2_with fail
       refine wp_region_held_drew (S:=(fun w'=>w'.cell? ⟨G,b,none⟩=some (.slice (some ⟨gs b,0,none⟩) K (cp b))∧w'.cell? ⟨G,s,none⟩=some (.slice (some ⟨gs s,0,none⟩) K (cp s))∧w'.cell? ⟨G2,b,none⟩=some (.slice (some ⟨gs2 b,0,none⟩) K (cp2 b)))) (by kernel_rfl) (by (try dsimp only);go_keep) (fun hHeld=>?_)
       refine tkH 0 rfl (v:=?_) ?_
       simp only [Act.put,xA,xB,xD,xE,xF]
       refine tkH 1 rfl (v:=?_) ?_
       simp only [Act.put,xA,xB,xC,xD,xE,xF]
       refine tkH 2 rfl (v:=?_) ?_
       simp only [Act.put,xA,xB,xC,xD,xE,xF]
       refine tkH 3 rfl (v:=?_) ?_
       simp only [Act.put,xA,xB,xC,xD,xE,xF]
       refine tkH 4 rfl (v:=?_) ?_
       simp only [Act.put,xA,xB,xC,xD,xE,xF]
       refine tkH 5 rfl (v:=?_) ?_
       simp only [Act.put,xA,xB,xC,xD,xE,xF]
       refine tkH 6 rfl (v:=?_) ?_
       simp only [Act.put,xA,xB,xC,xD,xE,xF]
       refine tkH 7 rfl (v:=?_) ?_
       simp only [Act.put,xA,xB,xC,xD,xE,xF]
       refine tkH 8 rfl (v:=?_) ?_
       simp only [Act.put,xA,xB,xC,xD,xE,xF]
       refine tkH 9 rfl (v:=?_) ?_
       simp only [Act.put,xA,xB,xC,xD,xE,xF]
       refine tkH 10 rfl (v:=?_) ?_
       simp only [Act.put,xA,xB,xC,xD,xE,xF]
       refine tkH 11 rfl (v:=?_) ?_
       simp only [Act.put,xA,xB,xC,xD,xE,xF]
       refine wpAnyH_ready (rs:=[12]) (by kernel_rfl) (by simp) ?_
       refine AllReadyH.cons rfl (fun K hK=>?_) AllReadyH.nil
       go_simp
       go_at_call 102
       refine HAB.out.mono ?_
       rintro e w5 ⟨rfl,hg5,hr5⟩
       have HS5:=hide (HSD.out.wrote hbn hg5 hr5)
       have HF5:=hide (HFD.out.grown hg5 hbn)
       have j1:=(cell_of (hg5.block G HLL.out.1 (fun e=>HSq.out.out b hbn (by injection e with e;exact e.symm)))).trans k1
       have j2:=(cell_of (hg5.block G HLL.out.1 (fun e=>HSq.out.out b hbn (by injection e with e;exact e.symm)))).trans k2
       have j3:=(cell_of (hg5.block G2 HLL.out.2 (fun e=>d3.out b hbn (by injection e)))).trans k3
       clear hg5 hr5 HAB
       refine hK.out _ _ ⟨j1,j2,j3⟩ (fun hHeld=>?_)
       clear hK
       try simp only [Act.put,xA,xB,xC,xD,xE,xF]
       refine tkH 13 rfl (v:=?_) ?_
       simp only [Act.put,xA,xB,xC,xD,xE,xF]
       refine wpAnyH_take (i:=14) (v:=undef) rfl (by kernel_rfl) (by kernel_rfl) (by kernel_rfl) (fun _ _ _ h=>h) (Or.inr ⟨by rfl,rfl⟩) (by assumption) ?_
       simp only [Act.put,xA,xB,xC,xD,xE,xF]
       refine tkH 15 rfl (v:=?_) ?_
       simp only [Act.put,xA,xB,xC,xD,xE,xF]
       refine tkH 16 rfl (v:=?_) ?_
       simp only [Act.put,xA,xB,xC,xD,xE,xF]
       refine wpAnyH_done (by kernel_rfl) ?_ _
       go_wp2_with fail
       exact ⟨⟨r+1,by omega,by go_num,by rw [HTK.out];rfl,hide HF5.out,hide (by rw [HTK.out];exact HS5.out)⟩,by simp [intOf];omega⟩
      | false =>
       go_wp2_with fail
       refine wp_region_held_drew (S:=(fun w'=>w'.cell? ⟨G,b,none⟩=some (.slice (some ⟨gs b,0,none⟩) K (cp b))∧w'.cell? ⟨G,s,none⟩=some (.slice (some ⟨gs s,0,none⟩) K (cp s))∧w'.cell? ⟨G2,b,none⟩=some (.slice (some ⟨gs2 b,0,none⟩) K (cp2 b)))) (by kernel_rfl) (by (try dsimp only);go_keep) (fun hHeld=>?_)
       refine tkH 0 rfl (v:=?_) ?_
       simp only [Act.put,xA,xB,xD,xE,xF]
       refine tkH 1 rfl (v:=?_) ?_
       simp only [Act.put,xA,xB,xC,xD,xE,xF]
       refine tkH 2 rfl (v:=?_) ?_
       simp only [Act.put,xA,xB,xC,xD,xE,xF]
       refine tkH 3 rfl (v:=?_) ?_
       simp only [Act.put,xA,xB,xC,xD,xE,xF]
       refine tkH 4 rfl (v:=?_) ?_
       simp only [Act.put,xA,xB,xC,xD,xE,xF]
       refine tkH 5 rfl (v:=?_) ?_
       simp only [Act.put,xA,xB,xC,xD,xE,xF]
       refine tkH 6 rfl (v:=?_) ?_
       simp only [Act.put,xA,xB,xC,xD,xE,xF]
       refine tkH 7 rfl (v:=?_) ?_
       simp only [Act.put,xA,xB,xC,xD,xE,xF]
       refine tkH 8 rfl (v:=?_) ?_
       simp only [Act.put,xA,xB,xC,xD,xE,xF]
       refine tkH 9 rfl (v:=?_) ?_
       simp only [Act.put,xA,xB,xC,xD,xE,xF]
       refine tkH 10 rfl (v:=?_) ?_
       simp only [Act.put,xA,xB,xC,xD,xE,xF]
       refine tkH 11 rfl (v:=?_) ?_
       simp only [Act.put,xA,xB,xC,xD,xE,xF]
       refine wpAnyH_ready (rs:=[12]) (by kernel_rfl) (by simp) ?_
       refine AllReadyH.cons rfl (fun K hK=>?_) AllReadyH.nil
       go_simp
       go_at_call 102
       refine HAB.out.mono ?_
       rintro e w5 ⟨rfl,hg5,hr5⟩
       have HS5:=hide (HSD.out.wrote hbn hg5 hr5)
       have HF5:=hide (HFD.out.grown hg5 hbn)
       have j1:=(cell_of (hg5.block G HLL.out.1 (fun e=>HSq.out.out b hbn (by injection e with e;exact e.symm)))).trans k1
       have j2:=(cell_of (hg5.block G HLL.out.1 (fun e=>HSq.out.out b hbn (by injection e with e;exact e.symm)))).trans k2
       have j3:=(cell_of (hg5.block G2 HLL.out.2 (fun e=>d3.out b hbn (by injection e)))).trans k3
       clear hg5 hr5 HAB
       refine hK.out _ _ ⟨j1,j2,j3⟩ (fun hHeld=>?_)
       clear hK
       try simp only [Act.put,xA,xB,xC,xD,xE,xF]
       refine tkH 13 rfl (v:=?_) ?_
       simp only [Act.put,xA,xB,xC,xD,xE,xF]
       refine tkH 14 rfl (v:=?_) ?_
       simp only [Act.put,xA,xB,xC,xD,xE,xF]
       refine tkH 15 rfl (v:=?_) ?_
       simp only [Act.put,xA,xB,xC,xD,xE,xF]
       refine tkH 16 rfl (v:=?_) ?_
       simp only [Act.put,xA,xB,xC,xD,xE,xF]
       refine wpAnyH_done (by kernel_rfl) ?_ _
       go_wp2_with fail
       exact ⟨⟨r+1,by omega,by go_num,by rw [HTK.out];rfl,hide HF5.out,hide (by rw [HTK.out];exact HS5.out)⟩,by simp [intOf];omega⟩
     ·have hre:r=sl.length:=by omega
      have HTE:Hid (sl.take r=sl):=hide (List.take_of_length_le (by omega))
      rw [HTE.out] at HSq ⊢
      clear hre
      have HW2:=hide (takes_wd (T:=T) (K:=K) (b:=b) sl (W,false) HW.out)
      have HMo:=hide (takes_mono (T:=T) (K:=K) (b:=b) hwT.out sl (W,false) HW.out)
      have HSd:=hide (takes_sound (I:=I) (T:=T) (K:=K) (b:=b) (ord:=(·∈ord)) (src:=fun b=>src.getD b []) hwT.out hbo.out sl (W,false) HW.out (fun t ht=>by show t∈src.getD b [];rw [HGD.out];exact ht) HSo.out)
      have HQu:=hide (takes_quiet (T:=T) (K:=K) (b:=b) hwT.out sl (W,false) HW.out)
      have HGw:=hide (takes_grew (T:=T) (K:=K) (b:=b) hwT.out sl (W,false) HW.out rfl)
      have HOt:=hide (fun i (hi:i≠b)=>takes_other (T:=T) (K:=K) hi sl (W,false))
      generalize takesN T K b sl (W,false)=sq at *
      obtain ⟨W2,g2'⟩:=sq
      dsimp only at *
      have HIm2:Hid (∀b x,hasN (I b) x=true→hasN (W2 b) x=true):=hide (fun b x h=>HMo.out b x (HIm.out b x h))
      cases g2' with
      | true =>
       have HML:=hide (mis_less (K:=K) HOt.out (HGw.out rfl) n hbn)
       go_wp2_with fail
       exact ⟨⟨0,p+1,W2,rfl,hR0,by go_num,by omega,HFq,HSq,HW2,hide (Or.inl (by have:=HML.out;rcases HM.out with h | h<;>omega)),HIm2,HSd,hide clq_none⟩,by simp [intOf];omega⟩
      | false =>
       obtain ⟨hsame,hcl⟩:=HQu.out rfl
       have HCQ:Hid (ClQ T K (fun b=>src.getD b []) W2 R (q+1) (p+1)):=hide (HCN.out W2 hsame (fun t ht x hx=>by have ht':t∈src.getD b []:=ht;rw [HGD.out] at ht';exact hcl t ht' x hx))
       have HMS:Hid (misN W2 K n=misN W K n):=hide (mis_same n (fun i _=>unseen_congr _ (fun x hx=>hsame i x hx)))
       clear hsame hcl
       by_cases hqe:q+1=R.length
       ·have hqb:(((q:Int)+1)==(R.length:Int))=true:=by simp;omega
        have HCA:Hid (ClQ T K (fun b=>src.getD b []) W2 R R.length (p+1)):=hide (by rw [←hqe];exact HCQ.out)
        clear hqe
        go_wp2_with fail
        go_end0
        refine ⟨rfl,⟨HFq.out.os.trans HB3.out.os,HFq.out.tape.trans HB3.out.tape,HFq.out.output.trans HB3.out.output,Nat.le_trans HB3.out.size HFq.out.size,fun k h1 h2=>(HFq.out.block k (Nat.lt_of_lt_of_le h1 HB3.out.size) h2).trans (HB3.out.block k h1)⟩,W2,HW2.out,HSq.out,fun b _ x hx=>?_⟩
        exact spread_done HIm2.out HSd.out (fun b hb t ht x hx h1 h2=>clq_all HCA.out (by omega) ((hRo.out b).2 hb) t ht x hx h1 h2) b x hx
       ·have hqb:(((q:Int)+1)==(R.length:Int))=false:=by simp;omega
        go_wp2_with fail
        exact ⟨⟨q+1,p+1,W2,by go_num,by omega,by go_num,by omega,HFq,HSq,HW2,hide (by rw [HMS.out];rcases HM.out with h | ⟨h,h'⟩;exact Or.inl h;exact Or.inr ⟨h,by omega⟩),HIm2,HSd,HCQ⟩,by simp [intOf];omega⟩
   ·have hpe:p=R.length:=by omega
    subst hpe
    go_wp2_with fail
    go_roundg (misN W K n)
    case measure=>rcases HM.out with h | ⟨_,h⟩;exact h;omega
    case rel=>exact ⟨q,W,rfl,hq,HF,HS,HW,hide (Nat.le_refl _),HIm,HSo,hide (clq_wrap HC.out hq)⟩
end Go.Proofs.YthgikffcdgpgiaaGreatDoor

namespace Go.Proofs.YthgikffcdgpgiaaGreatDoor
open Go.RowKit
set_option maxHeartbeats 2000000 in
theorem predecessors_sep (v:Int) (a:Option Addr) (n c:Nat) (xs:List Blk) (L B:Nat) (w:World) (ha:Hid (BlksAt w L B a xs)) (hx:Hid (n=xs.length)) (hn:n≤1048576) (hB:B≤w.heap.size) (hg:Hid (TgtOk xs n)) :
  Calls Tryz.prog 104 #[.agg #[.int .i64 v,.slice a n c]] w fun e w'=>∃U,e=.returned (.slice (some ⟨w.heap.size+1,0,none⟩) n n)∧Below w.heap.size w w'∧Rows2 w' (w.heap.size+1) n (fun i:Nat=>predsFrom xs 0 (i:Int)) U:=by
 obtain ⟨i0,hi0,hz0,hz1,hz2⟩:=info_parts Tryz.info2'
 have hmk:=run_make_row' (P:=Tryz.prog) 155 26 (.slice none 0 0) 24 Tryz.underlying155 Tryz.info45 rfl .i64 .i64 n (by omega) (by omega)
 go_enter Tryz.func104,Tryz.ntmps104
 go_wp2
 go_loopw [15] (fun i wr=>∃k:Nat,k≤n∧i=.int .i64 k∧Below w.heap.size w wr∧Hid (∃U,Rows2 wr (w.heap.size+1) n (predsMid xs k []) U)) (fun i _=>n-(intOf i).toNat)
 case atStart=>exact ⟨0,Nat.zero_le _,rfl,balloc (balloc (Below.refl _ _) _) _,⟨_,by have:=Rows2.born (w.alloc (.cells #[.int .i64 v,.slice a n c] 32)) n;rw [World.size_alloc] at this;exact this⟩⟩
 case round =>
  obtain ⟨k,hk,rfl,hw,hrw⟩:=hrel
  by_cases hlt:k<n
  ·have hkx:k<xs.length:=by have:=hx.out;omega
   obtain ⟨b,o,rfl,⟨_,hbB⟩,hc⟩:=ha.out k hkx
   obtain ⟨pa,pc,ia,ic,e0,e1,⟨e2,e3,e4,e5⟩,_,_⟩:=hc.keep (hw.mono hB) (by omega)
   have hwh:=hide (fun i=>predsMid_whole xs k i hkx)
   obtain ⟨hg1,hg2⟩:=hg.out _ (List.getElem_mem hkx)
   have HG1:=hide hg1
   have HG2:=hide hg2
   clear hc hg1 hg2
   generalize xs[k]=X at *
   go_wp2_with fail
   refine (targetsI_any X.term _).mono ?_
   rintro e w2 ⟨a1,c1,rfl,hb2,hi2⟩
   have hb3:=bnext (balloc (Below.refl wr.heap.size wr) _) hb2
   have hz3:=hb2.size
   simp at hz3
   have hz4:wr.heap.size<w2.heap.size:=by omega
   have HI:=hide hi2
   have hGlt:w.heap.size+1<wr.heap.size:=by obtain ⟨U,hU⟩:=hrw.out;exact hU.1.lt
   have HR:Hid (∃U,Rows2 w2 (w.heap.size+1) n (predsMid xs k []) U∧∀i g,i<n→(U i).ownBlock=some g→g≤wr.heap.size∨w2.heap.size≤g):=by
    obtain ⟨U,hU⟩:=hrw.out
    exact ⟨U,hU.below hb3,fun i g hi hg=>by have:=((hU.2.1 i hi).lt g hg).2;omega⟩
   have HW:=hide (bnext hw hb3)
   have htl:X.term.targets.length≤2:=by unfold Ter.targets;split<;>(try split)<;>simp
   generalize hT:X.term.targets=ts at *
   clear hT hi2 hrw e0 e1 e2 e3 e4 e5 hw
   simp only [World.size_alloc] at HI
   generalize hM:wr.heap.size=M at *
   clear hM
   go_wp2
   go_loopw [24] (fun i wi=>∃j:Nat,j≤ts.length∧i=.int .i64 j∧Below w.heap.size w wi∧w2.heap.size≤wi.heap.size∧Hid (IntsAt wi (M+1) w2.heap.size a1 ts)∧Hid (∃U,Rows2 wi (w.heap.size+1) n (predsMid xs k (ts.take j)) U∧∀i g,i<n→(U i).ownBlock=some g→g≤M∨w2.heap.size≤g)) (fun i _=>ts.length-(intOf i).toNat)
   case atStart=>exact ⟨0,Nat.zero_le _,rfl,HW.out,Nat.le_refl _,HI.out,HR.out⟩
   case round =>
    obtain ⟨j,hj,rfl,hwi,hszi,hii,hri⟩:=hrel
    by_cases hjt:j<ts.length
    ·obtain ⟨b',o',rfl,_,hcj⟩:=hii.out j hjt
     obtain ⟨ht0,ht1⟩:=HG1.out _ (List.getElem_mem hjt)
     have hnd:Hid (ts[j] ∉ ts.take j):=by
      intro hm
      obtain ⟨m,hm1,hm2⟩:=List.getElem_of_mem hm
      simp only [List.length_take] at hm1
      rw [List.getElem_take] at hm2
      have:=(List.getElem_inj HG2.out).1 hm2
      omega
     have hts:Hid (ts.take (j+1)=ts.take j++[ts[j]]):=take_next _ _ hjt
     obtain ⟨U,hU,hav⟩:=hri.out
     have HAV:=hide hav
     clear hav
     obtain ⟨t,htt⟩:=Int.eq_ofNat_of_zero_le ht0
     generalize ts[j]=T at *
     subst htt
     have htn:t<n:=by omega
     have hcU:=hU.1.cell htn
     have hfU:=hU.1.frozen t
     have hpl:=predsMid_len xs k t (ts.take j) (by have:=hx.out;omega)
     have HU:=hide hU
     clear hU hri
     go_wp2_with (at_builtin;refine wpList_append_own_at _ rfl _ _ 26 rfl (w.heap.size+1+1) 2 i0 (.int .i64 0) 1 8 Tryz.underlying26 hi0 hz0 hz1 hz2 rfl (by decide) _ _ _ rfl ((HU.out.alloc _).2.1 t htn) ⟨wr.heap.size,0,none⟩ 1 1 [.int .i64 k] rfl rfl ?c1 ?c2 ?c3 ?c4 ?c5 ?_)
     case c1 =>
      intro j u hj
      match j,hj with
      | 0,hj=>simp at hj;subst hj;simp [Addr.add]
     case c2=>intro u hu;simp at hu;subst hu;rfl
     case c3=>unfold maxLen;omega
     case c4=>omega
     case c5=>have:=HU.out.1.lt;simp;omega
     intro v1 w1 hown1 hgrow1 _ hat1
     obtain ⟨av,cv,hv,_⟩:=ints_owned (xs:=predsMid xs k (ts.take j) t++[(k:Int)]) (by rw [ints_snoc];exact hown1)
     have hst:=hide ((HU.out.alloc (.cells #[.int .i64 k] 2)).step htn k v1 hgrow1 hown1 (by rw [World.size_alloc];exact hat1))
     have hbG:w1.heap[w.heap.size+1]?=(wr.alloc (.cells #[.int .i64 k] 2)).heap[w.heap.size+1]?:=grown_block hgrow1 ((HU.out.alloc (.cells #[.int .i64 k] 2)).2.1 t htn) (by omega) (by have:=HU.out.1.lt;simp;omega)
     have hbel:=hide (grown_below (balloc hwi (.cells #[.int .i64 k] 2)) hgrow1 ((HU.out.alloc (.cells #[.int .i64 k] 2)).2.1 t htn) (by omega) (by have:=hwi.size;simp;omega))
     have hcG:w1.cell? ⟨w.heap.size+1,t,none⟩=some (U t):=by rw [cell_of hbG];exact ((HU.out.alloc (.cells #[.int .i64 k] 2)).1).cell htn
     have hfG:w1.frozen? ⟨w.heap.size+1,t,none⟩=false:=by rw [World.frozen?_of_block (w:=wr.alloc (.cells #[.int .i64 k] 2)) (a:=⟨w.heap.size+1,t,none⟩) hbG];exact ((HU.out.alloc (.cells #[.int .i64 k] 2)).1).frozen t
     have hgz:=hgrow1.size
     simp at hgz
     have hsm:Same (M+1) w2.heap.size wr w1:=fun q q1 q2=>(hgrow1.block q (by simp;omega) (fun e=>by have:=HAV.out t q htn e.symm;omega)).trans (Below.heap_alloc _ _ _ (by omega))
     have HSM:=hide hsm
     have hii2:=hide (hii.out.keepS hsm)
     have HAT:=hide hat1
     have HV:=hide hv
     clear hsm
     clear hown1 hgrow1 hat1 hbG hcU hfU
     rw [hv]
     clear hv
     go_wp2
     have hv2:=HV.out
     rw [List.length_append,List.length_cons,List.length_nil,Nat.zero_add] at hv2
     rw [←hv2]
     refine ⟨⟨j+1,by omega,by go_num,hbel.out.setCell (by dsimp only;omega) _,by rw [size_setCell];omega,hii2.out.keepS ((Same.refl _ _ _).setCell (Or.inl (by dsimp only;omega)) _),⟨_,(hst.out).congr (fun i _=>?_),fun i g hi hg=>?_⟩⟩,by simp [intOf];omega⟩
     ·rw [hts.out,predsMid_step xs k i (ts.take j) t hnd.out]
     ·by_cases e:i=t
      ·subst e
       simp only [if_true] at hg
       rcases HAT.out with q | q
       ·exact HAV.out i g hi (by rw [←q];exact hg)
       ·rw [q] at hg
        have:=Option.some.inj hg
        omega
      ·simp only [e,if_false] at hg
       exact HAV.out i g hi hg
    ·have E:=hide (List.take_of_length_le (l:=ts) (i:=j) (by omega))
     go_wp2
     refine ⟨⟨k+1,by omega,by go_num,hwi,?_⟩,by simp [intOf];omega⟩
     obtain ⟨U,hU,_⟩:=hri.out
     exact ⟨U,hU.congr (fun i _=>by rw [E.out,hwh.out,predsMid_nil])⟩
  ·go_wp2
   go_ret
   obtain ⟨U,hU⟩:=hrw.out
   have e:=List.take_of_length_le (l:=xs) (i:=k) (by have:=hx.out;omega)
   exact ⟨U,rfl,hw,hU.congr (P':=fun i:Nat=>predsFrom xs 0 (i:Int)) (fun i _=>by rw [predsMid_nil,e])⟩
end Go.Proofs.YthgikffcdgpgiaaGreatDoor

namespace Go.Proofs.YthgikffcdgpgiaaGreatDoor
open Go.RowKit
structure PuI (w2 wr:World) (G n K:Nat) (gs:Nat→Nat) (Ws:Nat→Nat→Nat) (E:List (Nat × Nat)):Prop where
 sets:SetsAv wr G n K gs (fun _=>K) Ws
 wd:AllWd Ws
 fr:FrS w2 wr n gs
 has:∀b,b<n→∀v,hasN (Ws b) v=true↔(b,v)∈E
def PuE (w2 wr:World) (G n K:Nat) (gs:Nat→Nat) (E:List (Nat × Nat)):Prop:=∃Ws,PuI w2 wr G n K gs Ws E
theorem PuI.below {w2 wr wr':World} {G n K:Nat} {gs:Nat→Nat} {Ws:Nat→Nat→Nat} {E:List (Nat × Nat)} (h:PuI w2 wr G n K gs Ws E) (k:Below wr.heap.size wr wr'):PuI w2 wr' G n K gs Ws E:=⟨h.sets.keep k,h.wd,h.fr.below k,h.has⟩
theorem PuE.below {w2 wr wr':World} {G n K:Nat} {gs:Nat→Nat} {E:List (Nat × Nat)} (h:PuE w2 wr G n K gs E) (k:Below wr.heap.size wr wr'):PuE w2 wr' G n K gs E:=by
 obtain ⟨Ws,h⟩:=h
 exact ⟨Ws,h.below k⟩
theorem PuI.add {w2 wr wr':World} {G n K p v:Nat} {gs:Nat→Nat} {Ws:Nat→Nat→Nat} {E:List (Nat × Nat)} (h:PuI w2 wr G n K gs Ws E) (hp:p<n) (k:wr.grownBy wr' (some (gs p))) (hr:WsAt wr' (gs p) K K (addsN (Ws p) [v])):PuI w2 wr' G n K gs (fun i=>if i=p then addsN (Ws p) [v] else Ws i) (E++[(p,v)]):=by
 refine ⟨h.sets.wrote hp k hr,fun i=>?_,h.fr.grown k hp,fun b hb x=>?_⟩
 ·by_cases e:i=p
  ·simp only [if_pos e];exact adds_wd _ (h.wd p)
  ·simp only [if_neg e];exact h.wd i
 ·by_cases e:b=p
  ·subst e
   simp only [if_true,List.mem_append,List.mem_singleton,Prod.mk.injEq,true_and]
   rw [has_adds,Bool.or_eq_true,decide_eq_true_eq,List.mem_singleton,h.has b hb x]
   exact or_comm
  ·simp only [if_neg e,List.mem_append,List.mem_singleton,Prod.mk.injEq]
   rw [h.has b hb x]
   exact ⟨Or.inl,fun h=>h.elim id (fun h=>absurd h.1 e)⟩
theorem phE_step {xs:List Blk} {k:Nat} (h:k<xs.length):phE xs (k+1)=phE xs k++phT xs k xs[k].phis:=by
 unfold phE
 rw [List.range_succ,List.flatMap_append]
 simp [phB,h]
theorem phT_step {xs:List Blk} {t j:Nat} {ps:List Ph} (h:j<ps.length):phT xs t (ps.take (j+1))=phT xs t (ps.take j)++(predN xs xs.length t).zip (natL ps[j].args):=by
 unfold phT
 rw [take_next _ _ h,List.flatMap_append]
 simp
set_option maxHeartbeats 4000000 in
set_option maxRecDepth 100000 in
theorem phiUses_any (V:Nat) (a:Option Addr) (n c:Nat) (xs:List Blk) (L B:Nat) (w:World) (ha:Hid (BlksAt w L B a xs)) (hx:Hid (n=xs.length)) (hB:B≤w.heap.size) (ho:Hid (OkL V xs)) :
  Calls Tryz.prog 95 #[.agg #[.int .i64 (V:Int),.slice a n c]] w fun e w'=>∃G gs Ws,e=.returned (.slice (some ⟨G,0,none⟩) n n)∧w.heap.size≤G∧Below w.heap.size w w'∧SetsAv w' G n ((V+63) / 64) gs (fun _=>(V+63) / 64) Ws∧(∀i,i<n→w.heap.size≤gs i)∧AllWd Ws∧∀b,b<n→∀v,hasN (Ws b) v=true↔(b,v)∈phE xs n:=by
 have hn:n≤1000:=by have:=hx.out;have:=ho.out.okf.n2;omega
 have hV:=ho.out.vle
 have HNS:=hide (fun W=>newSets_valueNo n V W hn (by omega))
 have HPR:Hid (∀W,Below w.heap.size w W→_):=hide (fun W (hW:Below w.heap.size w W)=>predecessors_sep (V:Int) a n c xs L B W (hide (ha.out.keep (hW.mono hB))) hx (by omega) (by have:=hW.size;omega) (hide (by rw [hx.out];exact ho.out.okf.ok)))
 have hK:(V+63) / 64≤32:=by omega
 have hVK:V≤64*((V+63) / 64):=by omega
 generalize (V+63) / 64=K at *
 go_enter Tryz.func95,Tryz.ntmps95
 go_wp2_with fail
 refine (HNS.out _).mono ?_
 rintro e w1 ⟨G,gs,rfl,hG,hb1,hs1,hgs⟩
 have HBA:Hid (Below w.heap.size w (w.alloc (.cells #[.int .i64 (V:Int),.slice a n c] 32))):=hide (balloc (Below.refl _ _) _)
 have q0:=(hb1.cell (p:=⟨w.heap.size,0,none⟩) (by show w.heap.size<_;simp)).trans (by simp [go_sem]:(w.alloc (.cells #[.int .i64 (V:Int),.slice a n c] 32)).cell? ⟨w.heap.size,0,none⟩=some (.int .i64 (V:Int)))
 have q1:=(hb1.cell (p:=⟨w.heap.size,1,none⟩) (by show w.heap.size<_;simp)).trans (by simp [go_sem]:(w.alloc (.cells #[.int .i64 (V:Int),.slice a n c] 32)).cell? ⟨w.heap.size,1,none⟩=some (.slice a n c))
 have HB1:Hid (Below w.heap.size w w1):=hide (bnext HBA.out hb1)
 have HS1:=hide hs1
 have hG1:w.heap.size<G:=by simp at hG;omega
 have HGS:Hid (∀i,i<n→w.heap.size<gs i∧gs i<w1.heap.size):=hide (fun i hi=>⟨by have:=hgs i hi;simp at this;omega,(hs1.set i hi).lt⟩)
 have hGl:G<w1.heap.size:=hs1.row.lt
 have hz1:=HB1.out.size
 have hzw:w.heap.size<w1.heap.size:=by omega
 have HP1:=hide (HPR.out w1 HB1.out)
 clear hb1 hs1 hgs hG HNS HPR HBA
 go_wp2_with fail
 refine HP1.out.mono ?_
 rintro e w2 ⟨U,rfl,hb2,hr2⟩
 have HB2:Hid (Below w.heap.size w w2):=hide (bnext HB1.out hb2)
 have HPS:Hid (IntssAt w2 (w1.heap.size+1) w2.heap.size (some ⟨w1.heap.size+1,0,none⟩) ((List.range n).map fun i:Nat=>predsFrom xs 0 (i:Int))):=hide hr2.ints
 have HI2:Hid (PuE w2 w2 G n K gs []):=hide ⟨_,HS1.out.keep hb2,fun _=>fun _=>by decide,FrS.refl _ _ _,fun b _ v=>by simp [has_none]⟩
 have q1':=(hb2.cell (p:=⟨w.heap.size,1,none⟩) hzw).trans q1
 have hz2:=hb2.size
 clear hb2 hr2 HP1 HS1 q0 q1 HB1
 have HA2:Hid (BlksAt w2 L B a xs):=hide (ha.out.keep (HB2.out.mono hB))
 go_wp2_with fail
 go_loopw [22] (fun i wr=>∃k:Nat,k≤n∧i=.int .i64 k∧Hid (PuE w2 wr G n K gs (phE xs k))) (fun i _=>n-(intOf i).toNat)
 case atStart=>exact ⟨0,Nat.zero_le _,rfl,HI2⟩
 case round =>
  obtain ⟨k,hk,rfl,HI⟩:=hrel
  by_cases hlt:k<n
  ·have hkx:k<xs.length:=by have:=hx.out;omega
   obtain ⟨b,o,rfl,hbB,hc⟩:=HA2.out k hkx
   have hfr:FrS w2 wr n gs:=HI.out.elim (fun _ h=>h.fr)
   have HSm:Hid (Same L B w2 wr):=hide (fun i h1 h2=>hfr.block i (by omega) (fun j hj e=>by have:=HGS.out j hj;omega))
   obtain ⟨pa,pc,ia,ic,e0,e1,⟨e2,e3,e4,e5⟩,hph,_⟩:=hc.keepS HSm.out (HSm.out b hbB.1 hbB.2)
   have HPH:=hide hph
   have HNX:=hide (phE_step (xs:=xs) hkx)
   have HPA:=hide (ho.out.pha k hkx)
   have HPD:Hid (predsFrom xs 0 (k:Int)=natI (predN xs xs.length k)):=hide (preds_all (fun x hx t ht=>(ho.out.okf.tgt x hx t ht).1) k)
   have hpl:=(ho.out.lens xs[k] (List.getElem_mem hkx)).2
   clear hc hph hfr
   generalize xs[k]=X at *
   go_wp2_with fail
   have HIa:Hid (PuE w2 (wr.alloc (.cells #[.slice pa X.phis.length pc,.slice ia X.instrs.length ic,.int .i64 X.term.kind,.int .i64 X.term.a,.int .i64 X.term.to,.int .i64 X.term.els] 57)) G n K gs (phE xs k)):=hide (HI.out.below (balloc (Below.refl _ _) _))
   have HPHw:Hid (PhsAt w2 L B pa X.phis):=hide (HPH.out.keepS (fun i h1 h2=>(HSm.out i h1 h2).symm))
   clear HPH HSm e0 e1 e2 e3 e4 e5 HI
   generalize wr=wo at *
   go_loopw [30] (fun i wr=>∃j:Nat,j≤X.phis.length∧i=.int .i64 j∧Hid (PuE w2 wr G n K gs (phE xs k++phT xs k (X.phis.take j)))) (fun i _=>X.phis.length-(intOf i).toNat)
   case atStart=>exact ⟨0,Nat.zero_le _,rfl,hide (by rw [show phE xs k++phT xs k (X.phis.take 0)=phE xs k by simp [phT]];exact HIa.out)⟩
   case round =>
    obtain ⟨j,hj,rfl,HI⟩:=hrel
    by_cases hlj:j<X.phis.length
    ·have hfr:FrS w2 wr n gs:=HI.out.elim (fun _ h=>h.fr)
     have HSm:Hid (Same L B w2 wr):=hide (fun i h1 h2=>hfr.block i (by omega) (fun j hj e=>by have:=HGS.out j hj;omega))
     obtain ⟨b2,o2,rfl,hb2B,ap,cp,f0,f1,hargs⟩:=(HPHw.out.keepS HSm.out) j hlj
     have HAR:Hid (IntsAt w2 L B ap X.phis[j].args):=hide (hargs.keepS (fun i h1 h2=>(HSm.out i h1 h2).symm))
     have HTX:=hide (phT_step (xs:=xs) (t:=k) hlj)
     obtain ⟨hal,hav⟩:=HPA.out X.phis[j] (List.getElem_mem hlj)
     have HAV:=hide hav
     clear hfr hargs hav
     generalize X.phis[j]=ph at *
     have hpn:(predN xs xs.length k).length≤n:=by have:=predN_len (xs:=xs) (n:=xs.length) (b:=k);have:=hx.out;omega
     have hal2:ph.args.length=(predN xs xs.length k).length:=by rw [hal,HPD.out];simp [natI]
     have HAL:=hide hal2
     have halb:ph.args.length≤1000:=by omega
     clear hal hal2
     go_wp2_with fail
     have HIb:Hid (PuE w2 (wr.alloc (.cells #[.int .i64 ph.dst,.slice ap ph.args.length cp] 64)) G n K gs (phE xs k++phT xs k (X.phis.take j))):=hide (HI.out.below (balloc (Below.refl _ _) _))
     clear HI f0 f1 HSm
     generalize wr=wo2 at *
     go_loopw [37] (fun i wr=>∃q:Nat,q≤ph.args.length∧i=.int .i64 q∧Hid (PuE w2 wr G n K gs (phE xs k++phT xs k (X.phis.take j)++((predN xs xs.length k).zip (natL ph.args)).take q))) (fun i _=>ph.args.length-(intOf i).toNat)
     case atStart=>exact ⟨0,Nat.zero_le _,rfl,hide (by rw [List.take_zero,List.append_nil];exact HIb.out)⟩
     case round =>
      obtain ⟨q,hq,rfl,HI⟩:=hrel
      by_cases hlq:q<ph.args.length
      ·obtain ⟨Ws,hW⟩:=HI.out
       have hfr:=hW.fr
       obtain ⟨b3,o3,rfl,hb3,r0⟩:=HAR.out q hlq
       have r0':=(cell_of (hfr.block b3 (by omega) (fun i hi e=>by have:=HGS.out i hi;omega))).trans r0
       obtain ⟨b4,o4,e4,hb4,a4,c4,r1,hi4⟩:=HPS.out k (by simpa using hlt)
       injection e4 with e4
       injection e4 with e5 e6
       subst e5
       subst e6
       have r1':=(cell_of (hfr.block (w1.heap.size+1) hb4.2 (fun i hi e=>by have:=HGS.out i hi;omega))).trans r1
       simp only [List.getElem_map,List.getElem_range,HPD.out] at r1' hi4
       have hqp:q<(predN xs xs.length k).length:=by have:=HAL.out;omega
       obtain ⟨b5,o5,e7,hb5,r2⟩:=hi4 q (by simpa [natI] using hqp)
       subst e7
       have r2':=(cell_of (hfr.block b5 hb5.2 (fun i hi e=>by have:=HGS.out i hi;omega))).trans r2
       have hpq:(natI (predN xs xs.length k))[q]'(by simpa [natI] using hqp)=(((predN xs xs.length k)[q]:Nat):Int):=by simp [natI]
       rw [hpq] at r2'
       have hpl:(predN xs xs.length k)[q]<n:=by have:=(predN_mem.1 (List.getElem_mem hqp)).1;have:=hx.out;omega
       have hvq:=HAV.out ph.args[q] (List.getElem_mem hlq)
       have HZ:Hid (((predN xs xs.length k).zip (natL ph.args)).take (q+1)=((predN xs xs.length k).zip (natL ph.args)).take q++[((predN xs xs.length k)[q],ph.args[q].toNat)]):=hide (by
        rw [take_next _ _ (by simp [natL];omega)]
        simp [natL])
       obtain ⟨vv,hvv⟩:=Int.eq_ofNat_of_zero_le hvq.1
       rw [hvv] at r0' hvq HZ
       simp only [Int.toNat_natCast] at HZ
       have hln4:(natI (predN xs xs.length k)).length=(predN xs xs.length k).length:=by simp [natI]
       rw [hln4,Nat.zero_add] at r1'
       have hpe:=HAL.out
       rw [←hpe] at r1'
       have HW:=hide hW
       clear hW hfr r0 r1 r2 hi4 hpq hvv HI hpe hln4
       generalize (predN xs xs.length k)[q]=p at *
       have hG0:=HW.out.sets.row.cell hpl
       have hvl:vv<V:=by omega
       clear hvq
       go_wp2_with fail
       have HWa:=hide (HW.out.below (balloc (Below.refl _ _) (.cells #[.int .i64 (vv:Int)] 72)))
       have hgl:gs p<wr.heap.size:=(HW.out.sets.set p hpl).lt
       have hza:wr.heap.size+1≤(wr.alloc (.cells #[.int .i64 (vv:Int)] 72)).heap.size:=by simp
       have HIO:Hid (IntsAt (wr.alloc (.cells #[.int .i64 (vv:Int)] 72)) wr.heap.size (wr.heap.size+1) (some ⟨wr.heap.size,0,none⟩) ([vv].map Int.ofNat)):=hide (ints_one wr vv _)
       have HTV:∀t∈[vv],t<64*K:=fun t ht=>by
        have e:t=vv:=by simpa using ht
        omega
       refine (add_valueNo (gs p) K K 1 1 (Ws p) _ [vv] wr.heap.size (wr.heap.size+1) _ HIO (hide rfl) (by omega) (hide HTV) (by omega) (hide (HW.out.wd p)) (hide (HWa.out.sets.set p hpl)) hza (by omega)).mono ?_
       rintro e w5 ⟨rfl,hg5,hr5⟩
       have HW5:=hide (HWa.out.add hpl hg5 hr5)
       clear hg5 hr5 HWa HIO hG0 r0' r1' r2'
       go_wp2_with fail
       exact ⟨⟨q+1,by omega,by go_num,hide ⟨_,by rw [HZ.out,←List.append_assoc];exact HW5.out⟩⟩,by simp [intOf];omega⟩
      ·have hqe:q=ph.args.length:=by omega
       have HZ:Hid (((predN xs xs.length k).zip (natL ph.args)).take q=(predN xs xs.length k).zip (natL ph.args)):=hide (List.take_of_length_le (by simp [natL];omega))
       rw [HZ.out] at HI
       clear hqe
       go_wp2_with fail
       exact ⟨⟨j+1,by omega,by go_num,hide (by rw [HTX.out,←List.append_assoc];exact HI.out)⟩,by simp [intOf];omega⟩
    ·have hje:j=X.phis.length:=by omega
     have HZ:Hid (X.phis.take j=X.phis):=hide (List.take_of_length_le (by omega))
     rw [HZ.out] at HI
     clear hje
     go_wp2_with fail
     exact ⟨⟨k+1,by omega,by go_num,hide (by rw [HNX.out];exact HI.out)⟩,by simp [intOf];omega⟩
  ·have hke:k=n:=by omega
   subst hke
   go_wp2
   go_ret
   obtain ⟨Ws,hW⟩:=HI.out
   refine ⟨G,gs,Ws,rfl,by omega,⟨hW.fr.os.trans HB2.out.os,hW.fr.tape.trans HB2.out.tape,hW.fr.output.trans HB2.out.output,Nat.le_trans HB2.out.size hW.fr.size,fun i hi=>(hW.fr.block i (by have:=HB2.out.size;omega) (fun j hj e=>by have:=HGS.out j hj;omega)).trans (HB2.out.block i hi)⟩,hW.sets,fun i hi=>by have:=HGS.out i hi;omega,hW.wd,hW.has⟩
end Go.Proofs.YthgikffcdgpgiaaGreatDoor
