import Derived.Test.YthgikffcdgpgiaaGreatDoorVP1
import Derived.Test.YthgikffcdgpgiaaGreatDoorPL2
import Derived.Test.YthgikffcdgpgiaaGreatDoorDR1
import Derived.Test.YthgikffcdgpgiaaGreatDoorFQ0
import Derived.Test.YthgikffcdgpgiaaGreatDoorW5
import Derived.Test.YthgikffcdgpgiaaGreatDoorW10
namespace Go.Proofs.YthgikffcdgpgiaaGreatDoor
open Go.RowKit
set_option maxHeartbeats 400000 in
theorem l1Has_big (a:Option Addr) (n c:Nat) (x:Int) (xs:List Int) (L B:Nat) (w:World) (ha:Hid (IntsAt w L B a xs)) (hx:Hid (n=xs.length)) (hn:n≤100000000) :
  Calls Tryz.prog 43 #[.slice a n c,.int .i64 x] w fun e w'=>e=.returned (.bool (hasI xs x))∧w'=w:=by
 go_enter Tryz.func43,Tryz.ntmps43
 go_wp2
 go_loop [5] (fun i=>∃k:Nat,k≤n∧i=.int .i64 k∧Hid (∀j (h:j<xs.length),j<k→xs[j]≠x)) (fun i=>n-(intOf i).toNat)
 case atStart=>exact ⟨0,Nat.zero_le _,rfl,fun j hj h=>absurd h (by omega)⟩
 case round =>
  obtain ⟨k,hk,rfl,hno⟩:=hrel
  by_cases hlt:k<n
  ·have hkx:k<xs.length:=by have:=hx.out;omega
   obtain ⟨b,o,rfl,_,hc⟩:=ha.out k hkx
   by_cases he:xs[k]=x
   ·have hb:(xs[k]==x)=true:=by simp [he]
    have HE:=hide he
    clear he
    go_wp2
    go_ret
    exact ⟨ret_bool (by unfold hasI;rw [eq_comm,List.contains_iff_mem,←HE.out];exact List.getElem_mem hkx),rfl⟩
   ·have hb:(xs[k]==x)=false:=by simp [he]
    have HE:=hide he
    clear he
    go_wp2
    go_round
    case rel=>exact ⟨k+1,by omega,by go_num,fun j hj h=>if e:j=k then by subst e;exact HE.out else hno.out j hj (by omega)⟩
    case measure=>simp [intOf];omega
  ·go_wp2
   go_ret
   exact ⟨ret_bool (by
    rw [eq_comm,Bool.eq_false_iff]
    intro hc
    obtain ⟨j,hj,e⟩:=List.getElem_of_mem (List.contains_iff_mem.1 (show xs.contains x=true from hc))
    exact hno.out j hj (by have:=hx.out;omega) e),rfl⟩
set_option maxHeartbeats 2000000 in
set_option maxRecDepth 100000 in
theorem bare_any (x:Blk) (E:List Int) (us:Nat→Value) (v:Int) (w:World) (h:Hid (FaAt w (fun _=>True) us x E)) (hln:Hid (x.instrs.length≤4000)) (hE:Hid (E.length≤8000000)) (u0 u1 u2 u3 u4 u5:Value) (h2:us 2=u2) (h3:us 3=u3) (h4:us 4=u4) (h5:us 5=u5) :
  Calls Tryz.prog 78 #[.agg #[u0,u1,u2,u3,u4,u5],.int .i64 v] w fun e w'=>e=.returned (.int .i64 (bareM x E v:Nat))∧Below w.heap.size w w':=by
 obtain ⟨a2,c2,e2,i2⟩:=h.out.e2
 obtain ⟨a3,c3,e3,i3⟩:=h.out.e3
 obtain ⟨a4,c4,e4,i4⟩:=h.out.e4
 obtain ⟨a5,c5,e5,i5⟩:=h.out.e5
 rw [e2] at h2
 rw [e3] at h3
 rw [e4] at h4
 rw [e5] at h5
 subst h2 h3 h4 h5
 have H2:=hide i2
 have H3:=hide i3
 have H4:=hide i4
 have H5:=hide i5
 have HL3:Hid ((rdsM x).length=x.instrs.length):=hide (by unfold rdsM;simp)
 have HL4:Hid ((dfsM x).length=x.instrs.length):=hide (by unfold dfsM;simp)
 obtain ⟨n3,hn3⟩:∃m,m=(rdsM x).length:=⟨_,rfl⟩
 obtain ⟨n4,hn4⟩:∃m,m=(dfsM x).length:=⟨_,rfl⟩
 obtain ⟨n5,hn5⟩:∃m,m=(rdT x.term).length:=⟨_,rfl⟩
 obtain ⟨n2,hn2⟩:∃m,m=E.length:=⟨_,rfl⟩
 rw [←hn3,←hn4,←hn5,←hn2]
 have h34:n3=n4:=by rw [hn3,hn4,HL3.out,HL4.out]
 subst h34
 have h4000:n3≤4000:=by rw [hn3,HL3.out];exact hln.out
 have hn5':n5≤1:=by rw [hn5];unfold rdT;split<;>simp
 have hn2':n2≤8000000:=by rw [hn2];exact hE.out
 have HN3:=hide hn3
 have HN4:=hide hn4
 have HN5:=hide hn5
 have HN2:=hide hn2
 clear hn3 hn4 hn5 hn2 e2 e3 e4 e5 i2 i3 i4 i5
 have HBB:Hid (bareM x E v=bareF v (hasI (rdT x.term) v||hasI E v) x.instrs):=hide rfl
 generalize bareM x E v=bm at *
 have hb0:Below w.heap.size w (w.alloc (.cells #[u0,u1,.slice a2 n2 c2,.slice a3 n3 c3,.slice a4 n3 c4,.slice a5 n5 c5] 102)):=balloc (Below.refl _ _) _
 have hc:∀q' v',#[u0,u1,Value.slice a2 n2 c2,.slice a3 n3 c3,.slice a4 n3 c4,.slice a5 n5 c5][q']?=some v'→(w.alloc (.cells #[u0,u1,.slice a2 n2 c2,.slice a3 n3 c3,.slice a4 n3 c4,.slice a5 n5 c5] 102)).cell? ⟨w.heap.size,q',none⟩=some v':=fun q' v' h=>by
  rw [World.cell?_alloc_new]
  exact h
 go_enter Tryz.func78,Tryz.ntmps78
 go_wp2_with fail
 have HB0:=hide hb0
 have HC:=hide hc
 generalize w.alloc (.cells #[u0,u1,.slice a2 n2 c2,.slice a3 n3 c3,.slice a4 n3 c4,.slice a5 n5 c5] 102)=W at *
 have k2:W.cell? ⟨w.heap.size,2,none⟩=some (.slice a2 n2 c2):=HC.out 2 _ rfl
 have k3:W.cell? ⟨w.heap.size,3,none⟩=some (.slice a3 n3 c3):=HC.out 3 _ rfl
 have k4:W.cell? ⟨w.heap.size,4,none⟩=some (.slice a4 n3 c4):=HC.out 4 _ rfl
 have k5:W.cell? ⟨w.heap.size,5,none⟩=some (.slice a5 n5 c5):=HC.out 5 _ rfl
 have hzW:=hb0.size
 have H2W:Hid (IntsAt W 0 w.heap.size a2 E):=hide (H2.out.at_.keep hb0)
 have H5W:Hid (IntsAt W 0 w.heap.size a5 (rdT x.term)):=hide (H5.out.at_.keep hb0)
 have HHE:=hide (l1Has_big a2 n2 c2 v E 0 w.heap.size W H2W HN2 (by omega))
 have HHT:=hide (l1Has_any a5 n5 c5 v (rdT x.term) 0 w.heap.size W H5W HN5 (by omega))
 clear hb0 hc HC
 go_loop [5] (fun i=>∃k:Nat,k≤n3∧i=.int .i64 k∧Hid (bm=bareF v (hasI (rdT x.term) v||hasI E v) (x.instrs.drop k))) (fun i=>n3-(intOf i).toNat)
 case atStart=>exact ⟨0,Nat.zero_le _,rfl,hide (by rw [HBB.out];rfl)⟩
 case round =>
  obtain ⟨k,hk,rfl,HF⟩:=hrel
  by_cases hlt:k<n3
  ·have hkx:k<x.instrs.length:=by rw [←HL3.out,←HN3.out];exact hlt
   have hk3:k<(rdsM x).length:=by rw [←HN3.out];exact hlt
   have hk4:k<(dfsM x).length:=by rw [←HN4.out];exact hlt
   obtain ⟨b3,o3,rfl,⟨_,hb3⟩,ar,cr,hcr,hir⟩:=H3.out k hk3
   obtain ⟨b4,o4,rfl,⟨_,hb4⟩,hcd⟩:=H4.out k hk4
   have er:(rdsM x)[k]=rdI x.instrs[k]:=by simp [rdsM]
   have ed:(dfsM x)[k]=defI x.instrs[k]:=by simp [dfsM]
   rw [er] at hcr hir
   rw [ed] at hcd
   have l3:=(HB0.out.cell (p:=⟨b3,o3+k,none⟩) hb3).trans hcr
   have l4:=(HB0.out.cell (p:=⟨b4,o4+k,none⟩) hb4).trans hcd
   have HFD:Hid (bareF v (hasI (rdT x.term) v||hasI E v) (x.instrs.drop k)=if hasI (rdI x.instrs[k]) v then 1 else if defI x.instrs[k]=v then 2 else bareF v (hasI (rdT x.term) v||hasI E v) (x.instrs.drop (k+1))):=hide (by rw [List.drop_eq_getElem_cons hkx];rfl)
   have HIR:Hid (IntsAt W 0 w.heap.size ar (rdI x.instrs[k])):=hide (hir.at_.keep HB0.out)
   obtain ⟨nr,hnr⟩:∃m,m=(rdI x.instrs[k]).length:=⟨_,rfl⟩
   rw [←hnr] at l3
   have hnr2:nr≤2:=by rw [hnr];exact rdI_le _
   have HHR:=hide (l1Has_any ar nr cr v (rdI x.instrs[k]) 0 w.heap.size W HIR (hide hnr) (by omega))
   clear hcr hcd hir er ed hnr
   generalize rdI x.instrs[k]=ri at *
   generalize defI x.instrs[k]=df at *
   go_wp2_with fail
   refine HHR.out.mono ?_
   rintro e w3 ⟨rfl,hw3⟩
   rw [hw3]
   clear hw3
   cases hh:hasI ri v with
   | true =>
    have HBM:Hid (bm=1):=hide (by rw [HF.out,HFD.out,hh];rfl)
    clear hh
    go_wp2_with fail
    go_ret
    exact ⟨by rw [HBM.out];rfl,HB0.out⟩
   | false =>
    have HF2:Hid (bm=if df=v then 2 else bareF v (hasI (rdT x.term) v||hasI E v) (x.instrs.drop (k+1))):=hide (by rw [HF.out,HFD.out,hh];rfl)
    clear hh
    by_cases hd:df=v
    ·have HBM:Hid (bm=2):=hide (by rw [HF2.out,if_pos hd])
     have hdb:(df==v)=true:=by simp [hd]
     clear hd
     go_wp2_with fail
     go_ret
     exact ⟨by rw [HBM.out];rfl,HB0.out⟩
    ·have HF3:Hid (bm=bareF v (hasI (rdT x.term) v||hasI E v) (x.instrs.drop (k+1))):=hide (by rw [HF2.out,if_neg hd])
     have hdb:(df==v)=false:=by simp [hd]
     clear hd
     go_wp2_with fail
     go_round
     case rel=>exact ⟨k+1,by omega,by go_num,HF3⟩
     case measure=>simp [intOf];omega
  ·have HBM:Hid (bm=if (hasI (rdT x.term) v||hasI E v) then 1 else 0):=hide (by rw [HF.out,List.drop_eq_nil_of_le (by rw [←HL3.out,←HN3.out];omega)];rfl)
   go_wp2_with fail
   refine HHT.out.mono ?_
   rintro e w3 ⟨rfl,hw3⟩
   rw [hw3]
   clear hw3
   cases ht:hasI (rdT x.term) v with
   | true =>
    have HB2:Hid (bm=1):=hide (by rw [HBM.out,ht];rfl)
    clear ht
    go_wp2_with fail
    go_ret
    exact ⟨by rw [HB2.out];rfl,HB0.out⟩
   | false =>
    have HB2:Hid (bm=if hasI E v then 1 else 0):=hide (by rw [HBM.out,ht];rfl)
    clear ht
    go_wp2_with fail
    refine HHE.out.mono ?_
    rintro e w4 ⟨rfl,hw4⟩
    rw [hw4]
    clear hw4
    cases ht:hasI E v with
    | true =>
     have HB3:Hid (bm=1):=hide (by rw [HB2.out,ht];rfl)
     clear ht
     go_wp2_with fail
     go_ret
     exact ⟨by rw [HB3.out];rfl,HB0.out⟩
    | false =>
     have HB3:Hid (bm=0):=hide (by rw [HB2.out,ht];rfl)
     clear ht
     go_wp2_with fail
     go_ret
     exact ⟨by rw [HB3.out];rfl,HB0.out⟩
end Go.Proofs.YthgikffcdgpgiaaGreatDoor

namespace Go.Proofs.YthgikffcdgpgiaaGreatDoor
open Go.RowKit
def phL (xs:List Blk) (b:Nat):List Int:=match xs[b]? with
 | none=>[]
 | some x=>x.phis.map Ph.dst
def rtL (xs:List Blk) (b:Nat):List Int:=match xs[b]? with
 | none=>[]
 | some x=>rdT x.term
def dfL (xs:List Blk) (b:Nat):List Int:=match xs[b]? with
 | none=>[]
 | some x=>dfsM x
def rdL (xs:List Blk) (b:Nat):List (List Int):=match xs[b]? with
 | none=>[]
 | some x=>rdsM x
theorem phiB_eq (xs:List Blk) (b v:Nat):phiB xs b v=hasI (phL xs b) (v:Int):=by
 unfold phiB phL
 cases xs[b]?<;>rfl
structure FcB (W:World) (base:Nat) (xs:List Blk) (b:Nat) (a0:Option Addr) (n0:Nat) (a1:Option Addr) (n1:Nat) (a2:Option Addr) (n2:Nat) (a3:Option Addr) (n3:Nat) (a4:Option Addr) (n4:Nat) (a5:Option Addr) (n5:Nat) (c0 c1 c2 c3 c4 c5:Nat):Prop where
 t:n0=(tgN xs b).length∧IntsAt W 0 base a0 (natI (tgN xs b))
 p:n1=(phL xs b).length∧IntsAt W 0 base a1 (phL xs b)
 e:n2=(edgesM xs b).length∧IntsAt W 0 base a2 (edgesM xs b)
 r:n3=(rdL xs b).length∧RowsP W (fun q=>q<base) a3 (rdL xs b)
 d:n4=(dfL xs b).length∧IntsAt W 0 base a4 (dfL xs b)
 u:n5=(rtL xs b).length∧IntsAt W 0 base a5 (rtL xs b)
 bare:∀v:Nat,Calls Tryz.prog 78 #[.agg #[.slice a0 n0 c0,.slice a1 n1 c1,.slice a2 n2 c2,.slice a3 n3 c3,.slice a4 n4 c4,.slice a5 n5 c5],.int .i64 (v:Int)] W fun e w'=>e=.returned (.int .i64 (barB xs b v:Nat))∧Below W.heap.size W w'
theorem FactsAt.row {V:Nat} {xs:List Blk} (ho:OkL V xs) {w W:World} {bf of:Nat} (h:FactsAt w (some ⟨bf,of,none⟩) xs) (k:Below w.heap.size w W) {b:Nat} (hb:b<xs.length) :
  ∃a0 n0 a1 n1 a2 n2 a3 n3 a4 n4 a5 n5 c0 c1 c2 c3 c4 c5,bf<w.heap.size∧W.cell? ⟨bf,of+b*6,none⟩=some (.slice a0 n0 c0)∧W.cell? ⟨bf,of+b*6+1,none⟩=some (.slice a1 n1 c1)∧W.cell? ⟨bf,of+b*6+2,none⟩=some (.slice a2 n2 c2)∧W.cell? ⟨bf,of+b*6+3,none⟩=some (.slice a3 n3 c3)∧W.cell? ⟨bf,of+b*6+4,none⟩=some (.slice a4 n4 c4)∧W.cell? ⟨bf,of+b*6+5,none⟩=some (.slice a5 n5 c5)∧n0≤2∧n1≤4000∧n2≤8000000∧n4≤4000∧n5≤1∧FcB W w.heap.size xs b a0 n0 a1 n1 a2 n2 a3 n3 a4 n4 a5 n5 c0 c1 c2 c3 c4 c5:=by
 obtain ⟨bf',of',us,e,hbf,hus,hfa⟩:=h b hb
 injection e with e
 injection e with e1 e2
 subst e1 e2
 have hc:∀j,j<6→W.cell? ⟨bf,of+b*6+j,none⟩=some (us j):=fun j hj=>(k.cell (p:=⟨bf,of+b*6+j,none⟩) hbf).trans (hus j hj)
 have hfW:=hfa.keep (fun q hq _=>k.block q hq) k.size
 obtain ⟨a0,c0,e0,i0⟩:=hfa.e0
 obtain ⟨a1,c1,e1,i1⟩:=hfa.e1
 obtain ⟨a2,c2,e2,i2⟩:=hfa.e2
 obtain ⟨a3,c3,e3,i3⟩:=hfa.e3
 obtain ⟨a4,c4,e4,i4⟩:=hfa.e4
 obtain ⟨a5,c5,e5,i5⟩:=hfa.e5
 have x0:=hc 0 (by decide)
 have x1:=hc 1 (by decide)
 have x2:=hc 2 (by decide)
 have x3:=hc 3 (by decide)
 have x4:=hc 4 (by decide)
 have x5:=hc 5 (by decide)
 rw [e0] at x0
 rw [e1] at x1
 rw [e2] at x2
 rw [e3] at x3
 rw [e4] at x4
 rw [e5] at x5
 have hlx:=ho.lens xs[b] (List.getElem_mem hb)
 have htg:xs[b].term.targets=natI (tgN xs b):=by rw [natI_tg ho.okf hb,tgI_at hb]
 have hel:(edgesM xs b).length≤8000000:=by
  unfold edgesM
  rw [List.getElem?_eq_getElem hb]
  have h1:=flat_len ho ((b:Nat):Int) xs[b].term.targets
  have h2:=tg_two xs[b].term
  simp only
  omega
 have hT:(rdT xs[b].term).length≤1:=by unfold rdT;split<;>simp
 have hph:phL xs b=xs[b].phis.map Ph.dst:=by unfold phL;rw [List.getElem?_eq_getElem hb]
 have hrt:rtL xs b=rdT xs[b].term:=by unfold rtL;rw [List.getElem?_eq_getElem hb]
 have hdf:dfL xs b=dfsM xs[b]:=by unfold dfL;rw [List.getElem?_eq_getElem hb]
 have hrd:rdL xs b=rdsM xs[b]:=by unfold rdL;rw [List.getElem?_eq_getElem hb]
 have hbb:∀v:Nat,barB xs b v=bareM xs[b] (edgesM xs b) (v:Int):=fun v=>by unfold barB;rw [List.getElem?_eq_getElem hb]
 refine ⟨a0,_,a1,_,a2,_,a3,_,a4,_,a5,_,c0,c1,c2,c3,c4,c5,hbf,x0,x1,x2,x3,x4,x5,tg_two _,by rw [List.length_map];exact hlx.2,hel,by unfold dfsM;rw [List.length_map];exact hlx.1,hT,⟨⟨by rw [htg];simp [natI],?_⟩,⟨by rw [hph],?_⟩,⟨rfl,i2.at_.keep k⟩,⟨by rw [hrd],?_⟩,⟨by rw [hdf],?_⟩,⟨by rw [hrt],?_⟩,fun v=>?_⟩⟩
 ·rw [←htg];exact i0.at_.keep k
 ·rw [hph];exact i1.at_.keep k
 ·rw [hrd]
  intro i hi
  obtain ⟨b',o',e',hb',a',c',hc',h2'⟩:=i3 i hi
  exact ⟨b',o',e',⟨hb'.2,Nat.lt_of_lt_of_le hb'.2 k.size⟩,a',c',(k.cell (p:=⟨b',o' + i,none⟩) hb'.2).trans hc',fun j hj=>by
   obtain ⟨b2,o2,e2,hb2,hc2⟩:=h2' j hj
   exact ⟨b2,o2,e2,⟨hb2.2,Nat.lt_of_lt_of_le hb2.2 k.size⟩,(k.cell (p:=⟨b2,o2+j,none⟩) hb2.2).trans hc2⟩⟩
 ·rw [hdf];exact i4.at_.keep k
 ·rw [hrt];exact i5.at_.keep k
 ·rw [hbb]
  exact bare_any xs[b] (edgesM xs b) us (v:Int) W (hide hfW) (hide hlx.1) (hide hel) _ _ _ _ _ _ e2 e3 e4 e5
def cntB (lv:Nat→Bool) (n:Nat):Nat:=(List.range n).countP lv
theorem cntB_le (lv:Nat→Bool) (n:Nat):cntB lv n≤n:=Nat.le_trans List.countP_le_length (by simp)
theorem cntB_succ (lv:Nat→Bool) (n:Nat):cntB lv (n+1)=cntB lv n+(if lv n then 1 else 0):=by
 unfold cntB
 rw [List.range_succ,List.countP_append]
 simp [List.countP_cons]
theorem cntB_congr {lv lv':Nat→Bool} {n:Nat} (h:∀b,b<n→lv b=lv' b):cntB lv n=cntB lv' n:=by
 unfold cntB
 exact List.countP_congr (fun x hx=>by rw [h x (List.mem_range.1 hx)])
theorem cntB_set {lv:Nat→Bool} {b:Nat} (hl:lv b=false):∀n,b<n→cntB (fun z=>if z=b then true else lv z) n=cntB lv n+1
 | 0,h=>absurd h (by omega)
 | n+1,h=>by
  rw [cntB_succ,cntB_succ]
  by_cases e:b=n
  ·subst e
   rw [cntB_congr (lv':=lv) (fun z hz=>by simp [show z≠b by omega])]
   simp [hl]
  ·rw [cntB_set hl n (by omega)]
   have:n≠b:=by omega
   simp only [this,if_false]
   omega
theorem cntB_pos {lv:Nat→Bool} {b n:Nat} (hb:b<n) (h:lv b=true):0<cntB lv n:=by
 unfold cntB
 exact List.countP_pos_iff.2 ⟨b,List.mem_range.2 hb,h⟩
structure BhI (xs:List Blk) (v n:Nat) (lv0 lv:Nat→Bool) (b:Nat) (gr:Bool):Prop where
 snd:∀z,z<n→lv z=true→Lbe xs v z
 here:∀z,z<n→barB xs z v=1→lv z=true
 no:gr=false→(∀z,z<n→lv z=lv0 z)∧∀z,z<b→barB xs z v=0→∀t∈tgN xs z,lv t=true→phiB xs t v=false→lv z=true
 yes:gr=true→cntB lv0 n<cntB lv n∧0<cntB lv0 n
theorem BhI.start {xs:List Blk} {v n:Nat} {lv:Nat→Bool} (h1:∀z,z<n→lv z=true→Lbe xs v z) (h2:∀z,z<n→barB xs z v=1→lv z=true):BhI xs v n lv lv 0 false :=
 ⟨h1,h2,fun _=>⟨fun _ _=>rfl,fun z hz=>absurd hz (by omega)⟩,fun h=>by cases h⟩
theorem BhI.set {xs:List Blk} {v n b t:Nat} {lv0 lv:Nat→Bool} {gr:Bool} (h:BhI xs v n lv0 lv b gr) (hn:n=xs.length) (hb:b<n) (ht:t∈tgN xs b) (htn:t<n) (h0:barB xs b v=0) (hl:lv b=false) (h1:lv t=true) (h2:phiB xs t v=false):BhI xs v n lv0 (fun z=>if z=b then true else lv z) b true:=by
 refine ⟨fun z hz he=>?_,fun z hz he=>?_,fun e=>(by cases e),fun _=>?_⟩
 ·by_cases e:z=b
  ·subst e
   exact Lbe.step (by omega) h0 ht h2 (h.snd t htn h1)
  ·simp only [e,if_false] at he
   exact h.snd z hz he
 ·by_cases e:z=b
  ·simp [e]
  ·simp only [e,if_false]
   exact h.here z hz he
 ·rw [cntB_set hl n hb]
  cases hg:gr with
  | false =>
   have e:=cntB_congr (h.no hg).1
   rw [e]
   refine ⟨by omega,?_⟩
   rw [←e]
   exact cntB_pos htn h1
  | true =>
   have:=h.yes hg
   omega
theorem BhI.next {xs:List Blk} {v n b:Nat} {lv0 lv:Nat→Bool} {gr:Bool} (h:BhI xs v n lv0 lv b gr) (hc:gr=false→barB xs b v=0→∀t∈tgN xs b,lv t=true→phiB xs t v=false→lv b=true):BhI xs v n lv0 lv (b+1) gr :=
 ⟨h.snd,h.here,fun e=>⟨(h.no e).1,fun z hz=>by
  by_cases e2:z=b
  ·subst e2;exact hc e
  ·exact (h.no e).2 z (by omega)⟩,h.yes⟩
theorem BhI.done {xs:List Blk} {v n:Nat} {lv0 lv:Nat→Bool} (h:BhI xs v n lv0 lv n false) (hn:n=xs.length):∀b,b<n→(lv b=true↔Lbe xs v b):=by
 subst hn
 exact fun b hb=>mark_done h.snd h.here (h.no rfl).2 hb
end Go.Proofs.YthgikffcdgpgiaaGreatDoor

namespace Go.Proofs.YthgikffcdgpgiaaGreatDoor
open Go.RowKit
structure BhW (w wr:World) (n:Nat) (lv op:Nat→Bool):Prop where
 low:Below w.heap.size w wr
 r1:wr.rowIs w.heap.size 4 n (fun b=>.bool (lv b))
 r2:wr.rowIs (w.heap.size+1) 4 n (fun b=>.bool (op b))
 sz:w.heap.size+2≤wr.heap.size
section
variable {w wr wr' : World} {n : Nat} {lv op : Nat → Bool}
theorem BhW.below (h:BhW w wr n lv op) (k:Below wr.heap.size wr wr'):BhW w wr' n lv op :=
 ⟨bnext h.low k,h.r1.of_block (k.block _ h.r1.lt),h.r2.of_block (k.block _ h.r2.lt),Nat.le_trans h.sz k.size⟩
theorem BhW.congr {lv' op':Nat→Bool} (h:BhW w wr n lv op) (e1:∀z,z<n→lv z=lv' z) (e2:∀z,z<n→op z=op' z):BhW w wr n lv' op':=⟨h.low,row_as (C:=Value.bool) h.r1 e1,row_as (C:=Value.bool) h.r2 e2,h.sz⟩
theorem BhW.set1 (h:BhW w wr n lv op) (b:Nat) (q:Bool):BhW w (wr.setCell ⟨w.heap.size,b,none⟩ (.bool q)) n (fun z=>if z=b then q else lv z) op :=
 ⟨h.low.setCell (Nat.le_refl _) _,row_set (C:=Value.bool) h.r1 b q,h.r2.setOther (by show w.heap.size+1≠w.heap.size;omega) _,by rw [size_setCell];exact h.sz⟩
theorem BhW.set2 (h:BhW w wr n lv op) (b:Nat) (q:Bool):BhW w (wr.setCell ⟨w.heap.size+1,b,none⟩ (.bool q)) n lv (fun z=>if z=b then q else op z) :=
 ⟨h.low.setCell (by show w.heap.size≤w.heap.size+1;omega) _,h.r1.setOther (by show w.heap.size≠w.heap.size+1;omega) _,row_set (C:=Value.bool) h.r2 b q,by rw [size_setCell];exact h.sz⟩
end
def RnI (xs:List Blk) (v n k:Nat) (lv:Nat→Bool):Prop:=(∀z,z<n→lv z=true→Lbe xs v z)∧(∀z,z<n→barB xs z v=1→lv z=true)∧(n<k+cntB lv n∨(k=n∧cntB lv n=0))
def BhR (w wr:World) (xs:List Blk) (v n:Nat) (lv op:Nat→Bool) (gr:Value) (b:Nat):Prop:=∃(g:Bool) (lv':Nat→Bool),gr=.bool g∧BhW w wr n lv' op∧BhI xs v n lv lv' b g
def BhJ (w wr:World) (xs:List Blk) (v n:Nat) (lv op:Nat→Bool) (gr:Value) (b j:Nat):Prop:=∃(g:Bool) (lv':Nat→Bool),gr=.bool g∧BhW w wr n lv' op∧BhI xs v n lv lv' b g∧(lv' b=false→∀r,r<j→∀t,(tgN xs b)[r]?=some t→¬(lv' t=true∧phiB xs t v=false))
set_option maxHeartbeats 4000000 in
set_option maxRecDepth 100000 in
theorem behind_any (V v n c bf of:Nat) (xs:List Blk) (w:World) (hF:Hid (FactsAt w (some ⟨bf,of,none⟩) xs)) (hx:Hid (n=xs.length)) (ho:Hid (OkL V xs)) :
  Calls Tryz.prog 48 #[.slice (some ⟨bf,of,none⟩) n c,.int .i64 (v:Int)] w fun e w'=>∃g,e=.returned (.slice (some ⟨g,0,none⟩) n n)∧Below w.heap.size w w'∧w.heap.size≤g∧∃lv:Nat→Bool,w'.rowIs g 4 n (fun b=>.bool (lv b))∧∀b,b<n→(lv b=true↔Lbe xs v b):=by
 have hn:n≤1000:=by have:=hx.out;have:=ho.out.okf.n2;omega
 have hn0:0<n:=by have:=hx.out;have:=ho.out.okf.n1;omega
 have hmk:=run_make_row' (P:=Tryz.prog) 46 4 (.bool false) 1 Tryz.underlying46 Tryz.infoBo rfl .i64 .i64 n (by omega) (by omega)
 have HR1:=hide (World.rowIs_made w (.bool false) n 4)
 have HR2:=hide (World.rowIs_made (w.alloc (.cells (madeCells #[.bool false] n) 4)) (.bool false) n 4)
 go_enter Tryz.func48,Tryz.ntmps48
 go_wp2_with fail
 have HW0:Hid (BhW w ((w.alloc (.cells (madeCells #[.bool false] n) 4)).alloc (.cells (madeCells #[.bool false] n) 4)) n (fun z=>decide (z<0)&&decide (barB xs z v=1)) (fun z=>decide (z<0)&&decide (barB xs z v=0))):=hide ⟨balloc (balloc (Below.refl _ _) _) _,row_as (C:=Value.bool) (HR1.out.alloc _) (fun z _=>by simp),row_as (C:=Value.bool) (by have:=HR2.out;rwa [World.size_alloc] at this) (fun z _=>by simp),by simp⟩
 clear HR1 HR2 hmk
 generalize (w.alloc (.cells (madeCells #[.bool false] n) 4)).alloc (.cells (madeCells #[.bool false] n) 4)=w2 at *
 go_loopw [7] (fun i wr=>∃b:Nat,b≤n∧i=.int .i64 b∧Hid (BhW w wr n (fun z=>decide (z<b)&&decide (barB xs z v=1)) (fun z=>decide (z<b)&&decide (barB xs z v=0)))) (fun i _=>n-(intOf i).toNat)
 case atStart=>exact ⟨0,Nat.zero_le _,rfl,HW0⟩
 case round =>
  clear HW0
  obtain ⟨b,hb,rfl,HW⟩:=hrel
  by_cases hlt:b<n
  ·obtain ⟨a0,n0,a1,n1,a2,n2,a3,n3,a4,n4,a5,n5,c0,c1,c2,c3,c4,c5,hbf,x0,x1,x2,x3,x4,x5,_,_,_,_,_,hfc⟩:=FactsAt.row ho.out hF.out HW.out.low (show b<xs.length by have:=hx.out;omega)
   have HBR:=hide (hfc.bare v)
   clear hfc
   go_wp2_with fail
   refine HBR.out.mono ?_
   rintro e w3 ⟨rfl,hb3⟩
   have HW3:=hide (HW.out.below hb3)
   have k1:=HW3.out.r1.cell hlt
   have k2:=HW3.out.r2.cell hlt
   have z1:=HW3.out.r1.frozen b
   have z2:=HW3.out.r2.frozen b
   clear hb3 HBR x0 x1 x2 x3 x4 x5
   obtain ⟨q1,hq1⟩:∃q:Bool,(((barB xs b v:Nat):Int)==1)=q:=⟨_,rfl⟩
   obtain ⟨q2,hq2⟩:∃q:Bool,(((barB xs b v:Nat):Int)==0)=q:=⟨_,rfl⟩
   have HQ:Hid (q1=decide (barB xs b v=1)∧q2=decide (barB xs b v=0)):=hide (by
    rw [←hq1,←hq2]
    constructor
    ·rw [Bool.eq_iff_iff,beq_iff_eq,decide_eq_true_eq];omega
    ·rw [Bool.eq_iff_iff,beq_iff_eq,decide_eq_true_eq];omega)
   have k2':∀u,(w3.setCell ⟨w.heap.size,b,none⟩ u).cell? ⟨w.heap.size+1,b,none⟩=w3.cell? ⟨w.heap.size+1,b,none⟩:=fun u=>World.cell?_of_block (Below.heap_setCell _ _ _ _ (by show w.heap.size+1≠w.heap.size;omega))
   go_wp2_with fail
   exact ⟨⟨b+1,by omega,by go_num,hide (((HW3.out.set1 b q1).set2 b q2).congr (fun z hz=>by
    by_cases e:z=b
    ·subst e;simp [HQ.out.1]
    ·have:z<b+1↔z<b:=by omega
     simp [e,this]) (fun z hz=>by
    by_cases e:z=b
    ·subst e;simp [HQ.out.2]
    ·have:z<b+1↔z<b:=by omega
     simp [e,this]))⟩,by simp [intOf];omega⟩
  ·have hbe:n=b:=by omega
   have HW1:Hid (BhW w wr n (fun z=>decide (barB xs z v=1)) (fun z=>decide (barB xs z v=0))):=hide (HW.out.congr (fun z hz=>by simp [←hbe,hz]) (fun z hz=>by simp [←hbe,hz]))
   subst hbe
   clear HW
   have HRN:Hid (RnI xs v n n (fun z=>decide (barB xs z v=1))):=hide ⟨fun z hz h=>Lbe.here (by have:=hx.out;omega) (of_decide_eq_true h),fun z _ h=>decide_eq_true h,by omega⟩
   go_wp2_with fail
   generalize (fun z=>decide (barB xs z v=1))=lv0 at *
   generalize hop:(fun z=>decide (barB xs z v=0))=op0 at *
   have HOP:Hid (∀z,op0 z=decide (barB xs z v=0)):=hide (fun z=>by rw [←hop])
   clear hop
   generalize wr=w5 at *
   go_loopw [9] (fun r wr=>∃(k:Nat) (lv:Nat→Bool),k≤n∧r=.int .i64 k∧Hid (BhW w wr n lv op0)∧Hid (RnI xs v n k lv)) (fun r _=>(intOf r).toNat)
   case atStart=>exact ⟨n,lv0,Nat.le_refl _,rfl,HW1,HRN⟩
   case round =>
    clear HW1 HRN
    obtain ⟨k,lv,hk,rfl,HW1,HRN⟩:=hrel
    have hk0:0<k:=by
     have h1:=HRN.out.2.2
     have h2:=cntB_le lv n
     omega
    have HBI:Hid (BhR w wr xs v n lv op0 (.bool false) 0):=hide ⟨false,lv,rfl,HW1.out,BhI.start HRN.out.1 HRN.out.2.1⟩
    clear HW1
    go_wp2_with fail
    generalize wr=w6 at *
    go_loopw [10,11] (fun gr bb wr=>∃b:Nat,b≤n∧bb=.int .i64 b∧Hid (BhR w wr xs v n lv op0 gr b)) (fun _ bb _=>n-(intOf bb).toNat)
    case atStart=>exact ⟨0,Nat.zero_le _,rfl,HBI⟩
    case round =>
     clear HBI
     obtain ⟨b,hb,rfl,HBI⟩:=hrel
     by_cases hlt:b<n
     ·have hbx:b<xs.length:=by have:=hx.out;omega
      obtain ⟨a0,n0,a1,n1,a2,n2,a3,n3,a4,n4,a5,n5,c0,c1,c2,c3,c4,c5,hbf,y0,_,_,_,_,_,hn0',_,_,_,_,hfc⟩:=FactsAt.row ho.out hF.out (Below.refl w.heap.size w) hbx
      have HT:=hide hfc.t
      clear hfc
      have HBJ:Hid (BhJ w wr xs v n lv op0 u10 b 0):=hide (by
       obtain ⟨g,lv',e,h1,h2⟩:=HBI.out
       exact ⟨g,lv',e,h1,h2,fun _ r hr=>absurd hr (by omega)⟩)
      clear HBI
      go_wp2_with fail
      generalize wr=w7 at *
      go_loopw [10,12] (fun gr jj wr=>∃j:Nat,j≤n0∧jj=.int .i64 j∧Hid (BhJ w wr xs v n lv op0 gr b j)) (fun _ jj _=>n0-(intOf jj).toNat)
      case atStart=>exact ⟨0,Nat.zero_le _,rfl,HBJ⟩
      case round =>
       clear HBJ
       obtain ⟨j,hj,rfl,HBJ⟩:=hrel
       obtain ⟨g,lv',rfl,hW,hI,hJ⟩:=HBJ.out
       have HW:=hide hW
       have HI:=hide hI
       have HJ:=hide hJ
       have k0:=(hW.low.cell (p:=⟨bf,of+b*6,none⟩) hbf).trans y0
       have k1:=hW.r1.cell hlt
       have k2:=hW.r2.cell hlt
       clear HBJ hW hI hJ
       by_cases hop:barB xs b v=0
       ·have ho1:op0 b=true:=by rw [HOP.out];exact decide_eq_true hop
        rw [ho1] at k2
        cases hlb:lv' b with
        | true =>
         rw [hlb] at k1
         have HNX:Hid (BhR w wr xs v n lv op0 (.bool g) (b+1)):=hide ⟨g,lv',rfl,HW.out,HI.out.next (fun _ _ _ _ _ _=>hlb)⟩
         clear hlb ho1
         go_wp2_with fail
         exact ⟨⟨b+1,by omega,by go_num,HNX⟩,by simp [intOf];omega⟩
        | false =>
         rw [hlb] at k1
         by_cases hjn:j<n0
         ·have hjt:j<(tgN xs b).length:=by rw [←HT.out.1];exact hjn
          have hjI:j<(natI (tgN xs b)).length:=by simp [natI];exact hjt
          obtain ⟨bt,ot,rfl,⟨_,hbt⟩,hct⟩:=HT.out.2 j hjI
          have ect:(natI (tgN xs b))[j]=(((tgN xs b)[j]:Nat):Int):=by simp [natI]
          rw [ect] at hct
          have htg:=List.getElem_mem hjt
          have htx:=ho.out.okf.tg _ hbx _ htg
          have HGE:Hid ((tgN xs b)[j]?=some (tgN xs b)[j]):=hide (List.getElem?_eq_getElem hjt)
          obtain ⟨t,ht⟩:∃t,t=(tgN xs b)[j]:=⟨_,rfl⟩
          rw [←ht] at hct htg htx HGE
          have HTG:=hide htg
          have htn:t<n:=by have:=hx.out;omega
          have kt:=(HW.out.low.cell (p:=⟨bt,ot+j,none⟩) hbt).trans hct
          have kl:=HW.out.r1.cell htn
          obtain ⟨d0,m0,d1,m1,d2,m2,d3,m3,d4,m4,d5,m5,f0,f1,f2,f3,f4,f5,_,_,t1,_,_,_,_,_,hm1,_,_,_,hft⟩:=FactsAt.row ho.out hF.out HW.out.low htx
          have HHP:=hide (l1Has_any d1 m1 f1 (v:Int) (phL xs t) 0 w.heap.size wr (hide hft.p.2) (hide hft.p.1) (by omega))
          have HPB:Hid (phiB xs t v=hasI (phL xs t) (v:Int)):=hide (phiB_eq xs t v)
          clear hct htg ht ect hft
          cases hlt':lv' t with
          | false =>
           rw [hlt'] at kl
           have HNX:Hid (BhJ w wr xs v n lv op0 (.bool g) b (j+1)):=hide ⟨g,lv',rfl,HW.out,HI.out,fun h r hr z hz=>by
            by_cases e:r=j
            ·subst e
             rw [HGE.out] at hz
             injection hz with hz
             subst hz
             rw [hlt']
             exact fun h=>by cases h.1
            ·exact HJ.out h r (by omega) z hz⟩
           clear hlt' hlb ho1
           go_wp2_with fail
           exact ⟨⟨j+1,by omega,by go_num,HNX⟩,by simp [intOf];omega⟩
          | true =>
           rw [hlt'] at kl
           have HLT:=hide hlt'
           have HLB:=hide hlb
           have HP0:=hide hop
           have z1:=HW.out.r1.frozen b
           clear hlt' hlb ho1 hop
           go_wp2_with fail
           refine HHP.out.mono ?_
           rintro e w8 ⟨rfl,hw8⟩
           subst hw8
           cases hph:hasI (phL xs t) (v:Int) with
           | true =>
            have HNX:Hid (BhJ w w8 xs v n lv op0 (.bool g) b (j+1)):=hide ⟨g,lv',rfl,HW.out,HI.out,fun h r hr z hz=>by
             by_cases e:r=j
             ·subst e
              rw [HGE.out] at hz
              injection hz with hz
              subst hz
              rw [HPB.out,hph]
              exact fun h=>by cases h.2
             ·exact HJ.out h r (by omega) z hz⟩
            clear hph
            go_wp2_with fail
            refine ⟨?_,by simp [intOf];omega⟩
            first
             | exact ⟨j+1,by omega,by go_num,HNX⟩
             | ((repeat apply Exists.intro);refine ⟨?_,rfl⟩;exact ⟨j+1,by omega,by go_num,HNX⟩)
           | false =>
            have HNX:Hid (BhJ w (w8.setCell ⟨w.heap.size,b,none⟩ (.bool true)) xs v n lv op0 (.bool true) b (j+1)):=hide ⟨true,_,rfl,HW.out.set1 b true,HI.out.set hx.out hlt HTG.out htn HP0.out HLB.out HLT.out (by rw [HPB.out];exact hph),fun h=>by simp at h⟩
            clear hph
            go_wp2_with fail
            refine ⟨?_,by simp [intOf];omega⟩
            first
             | exact ⟨j+1,by omega,by go_num,HNX⟩
             | ((repeat apply Exists.intro);refine ⟨?_,rfl⟩;exact ⟨j+1,by omega,by go_num,HNX⟩)
         ·have HNX:Hid (BhR w wr xs v n lv op0 (.bool g) (b+1)):=hide ⟨g,lv',rfl,HW.out,HI.out.next (fun _ _ t ht h1 h2=>by
           obtain ⟨r,hr,e⟩:=List.getElem_of_mem ht
           exact absurd ⟨h1,h2⟩ (HJ.out hlb r (by have:=HT.out.1;omega) t (by rw [List.getElem?_eq_getElem hr,e])))⟩
          clear hlb ho1
          go_wp2_with fail
          exact ⟨⟨b+1,by omega,by go_num,HNX⟩,by simp [intOf];omega⟩
       ·have ho1:op0 b=false:=by rw [HOP.out];exact decide_eq_false hop
        rw [ho1] at k2
        have HNX:Hid (BhR w wr xs v n lv op0 (.bool g) (b+1)):=hide ⟨g,lv',rfl,HW.out,HI.out.next (fun _ h=>absurd h hop)⟩
        clear ho1 hop
        go_wp2_with fail
        exact ⟨⟨b+1,by omega,by go_num,HNX⟩,by simp [intOf];omega⟩
     ·have hbe:b=n:=by omega
      subst hbe
      obtain ⟨g,lv',rfl,hW,hI⟩:=HBI.out
      have HW:=hide hW
      have HI:=hide hI
      clear HBI hW hI
      cases g with
      | true =>
       have HRN2:Hid (RnI xs v b (k-1) lv'):=hide ⟨HI.out.snd,HI.out.here,by
        have h1:=HI.out.yes rfl
        have h2:=HRN.out.2.2
        have h3:=cntB_le lv' b
        omega⟩
       go_wp2_with fail
       exact ⟨⟨k-1,lv',by omega,by go_num,HW,HRN2⟩,by simp [intOf];omega⟩
      | false =>
       go_wp2_with fail
       go_ret
       exact ⟨w.heap.size,rfl,HW.out.low,Nat.le_refl _,lv',HW.out.r1,HI.out.done hx.out⟩
end Go.Proofs.YthgikffcdgpgiaaGreatDoor

namespace Go.Proofs.YthgikffcdgpgiaaGreatDoor
open Go.RowKit
def SmX (a b:World):Prop:=a=b
def LoS (xs:List Blk) (v b:Nat) (w:World) (e:Ending) (w':World):Prop:=∃s:Bool,e=.returned (.bool s)∧(s=true↔Lou xs v b)∧Below w.heap.size w w'
set_option maxHeartbeats 4000000 in
set_option maxRecDepth 100000 in
theorem liveOut_any (V v n c bf of g b:Nat) (xs:List Blk) (lv:Nat→Bool) (w:World) (hF:Hid (FactsAt w (some ⟨bf,of,none⟩) xs)) (hx:Hid (n=xs.length)) (ho:Hid (OkL V xs)) (hb:b<n) (hr:Hid (w.rowIs g 4 n (fun z=>.bool (lv z)))) (hlv:Hid (∀z,z<n→(lv z=true↔Lbe xs v z))) :
  Calls Tryz.prog 49 #[.slice (some ⟨bf,of,none⟩) n c,.slice (some ⟨g,0,none⟩) n n,.int .i64 (v:Int),.int .i64 (b:Int)] w fun e w'=>LoS xs v b w e w':=by
 have hn:n≤1000:=by have:=hx.out;have:=ho.out.okf.n2;omega
 have hbx:b<xs.length:=by have:=hx.out;omega
 obtain ⟨a0,n0,a1,n1,a2,n2,a3,n3,a4,n4,a5,n5,c0,c1,c2,c3,c4,c5,hbf,x0,_,x2,_,_,_,hn0',_,hn2',_,_,hfc⟩:=FactsAt.row ho.out hF.out (Below.refl w.heap.size w) hbx
 have HT:=hide hfc.t
 have HE:=hide (l1Has_big a2 n2 c2 (v:Int) (edgesM xs b) 0 w.heap.size w (hide hfc.e.2) (hide hfc.e.1) (by omega))
 clear hfc
 cases hed:hasI (edgesM xs b) (v:Int) with
 | true =>
  have HLO:Hid (Lou xs v b):=hide (Or.inl (hasI_iff.1 hed))
  rw [hed] at HE
  clear hed
  go_enter Tryz.func49,Tryz.ntmps49
  go_wp2_with fail
  refine HE.out.mono ?_
  rintro e w3 ⟨rfl,hw3⟩
  have e3:=hw3.symm
  subst e3
  go_wp2_with fail
  go_ret
  exact ⟨true,rfl,⟨fun _=>HLO.out,fun _=>rfl⟩,Below.refl _ _⟩
 | false =>
  have HNE:Hid (¬(v:Int)∈edgesM xs b):=hide (fun h=>by rw [hasI_iff.2 h] at hed;cases hed)
  rw [hed] at HE
  clear hed
  go_enter Tryz.func49,Tryz.ntmps49
  go_wp2_with fail
  refine HE.out.mono ?_
  rintro e w3 ⟨rfl,hw3⟩
  have e3:=hw3.symm
  subst e3
  clear HE
  go_wp2_with fail
  go_loopw [9] (fun i wr=>∃j:Nat,j≤n0∧i=.int .i64 j∧Hid (SmX wr w)∧Hid (∀r,r<j→∀t,(tgN xs b)[r]?=some t→¬Lin xs v t)) (fun i _=>n0-(intOf i).toNat)
  case atStart=>exact ⟨0,Nat.zero_le _,rfl,hide rfl,hide (fun r hr=>absurd hr (by omega))⟩
  case round =>
   obtain ⟨j,hj,rfl,HSW,HNO⟩:=hrel
   have esw:w=wr:=Eq.symm HSW.out
   clear HSW
   subst esw
   by_cases hjn:j<n0
   ·have hjt:j<(tgN xs b).length:=by rw [←HT.out.1];exact hjn
    have hjI:j<(natI (tgN xs b)).length:=by simp [natI];exact hjt
    obtain ⟨bt,ot,rfl,⟨_,hbt⟩,hct⟩:=HT.out.2 j hjI
    have ect:(natI (tgN xs b))[j]=(((tgN xs b)[j]:Nat):Int):=by simp [natI]
    rw [ect] at hct
    have htg:=List.getElem_mem hjt
    have htx:=ho.out.okf.tg _ hbx _ htg
    have HGE:Hid ((tgN xs b)[j]?=some (tgN xs b)[j]):=hide (List.getElem?_eq_getElem hjt)
    obtain ⟨t,ht⟩:∃t,t=(tgN xs b)[j]:=⟨_,rfl⟩
    rw [←ht] at hct htg htx HGE
    have HTG:=hide htg
    have htn:t<n:=by have:=hx.out;omega
    have kl:=hr.out.cell htn
    have HLV:=hide (hlv.out t htn)
    obtain ⟨d0,m0,d1,m1,d2,m2,d3,m3,d4,m4,d5,m5,f0,f1,f2,f3,f4,f5,_,_,t1,_,_,_,_,_,hm1,_,_,_,hft⟩:=FactsAt.row ho.out hF.out (Below.refl w.heap.size w) htx
    have HHP:=hide (l1Has_any d1 m1 f1 (v:Int) (phL xs t) 0 w.heap.size w (hide hft.p.2) (hide hft.p.1) (by omega))
    have HPB:Hid (phiB xs t v=hasI (phL xs t) (v:Int)):=hide (phiB_eq xs t v)
    clear htg ht ect hft
    have HNN:Hid (¬Lin xs v t→∀r,r<j+1→∀t,(tgN xs b)[r]?=some t→¬Lin xs v t):=hide (fun h r hr z hz=>by
     by_cases e:r=j
     ·subst e
      rw [HGE.out] at hz
      injection hz with hz
      subst hz
      exact h
     ·exact HNO.out r (by omega) z hz)
    cases hlt':lv t with
    | false =>
     rw [hlt'] at kl
     have HNX:Hid (∀r,r<j+1→∀t,(tgN xs b)[r]?=some t→¬Lin xs v t):=hide (HNN.out (fun h=>by rw [HLV.out.2 h.2] at hlt';cases hlt'))
     clear hlt'
     go_wp2_with fail
     exact ⟨⟨j+1,by omega,by go_num,hide rfl,HNX⟩,by simp [intOf];omega⟩
    | true =>
     rw [hlt'] at kl
     have HLB:Hid (Lbe xs v t):=hide (HLV.out.1 hlt')
     clear hlt'
     go_wp2_with fail
     refine HHP.out.mono ?_
     rintro e w8 ⟨rfl,hw8⟩
     have e8:=hw8.symm
     subst e8
     cases hph:hasI (phL xs t) (v:Int) with
     | true =>
      have HNX:Hid (∀r,r<j+1→∀t,(tgN xs b)[r]?=some t→¬Lin xs v t):=hide (HNN.out (fun h=>by have:=h.1;rw [HPB.out,hph] at this;cases this))
      clear hph
      go_wp2_with fail
      refine ⟨?_,by simp [intOf];omega⟩
      first
       | exact ⟨j+1,by omega,by go_num,hide rfl,HNX⟩
       | ((repeat apply Exists.intro);refine ⟨?_,rfl⟩;exact ⟨j+1,by omega,by go_num,hide rfl,HNX⟩)
     | false =>
      have HLO:Hid (Lou xs v b):=hide (Or.inr ⟨t,HTG.out,by rw [HPB.out];exact hph,HLB.out⟩)
      clear hph
      go_wp2_with fail
      go_ret
      exact ⟨true,rfl,⟨fun _=>HLO.out,fun _=>rfl⟩,Below.refl _ _⟩
   ·have HNX:Hid (¬Lou xs v b):=hide (by
     rintro (h | ⟨t,ht,h⟩)
     ·exact HNE.out h
     ·obtain ⟨r,hr,e⟩:=List.getElem_of_mem ht
      exact HNO.out r (by have:=HT.out.1;omega) t (by rw [List.getElem?_eq_getElem hr,e]) h)
    go_wp2_with fail
    go_ret
    exact ⟨false,rfl,⟨fun h=>(by cases h),fun h=>absurd h HNX.out⟩,Below.refl _ _⟩
end Go.Proofs.YthgikffcdgpgiaaGreatDoor

namespace Go.Proofs.YthgikffcdgpgiaaGreatDoor
open Go.RowKit
theorem step_append_q {P:Program} {ops:Array Oper} {w:World} {o:Oper} {a:Act} {K:Act→World→Prop} {Q:Exit→Act→World→Prop} {E:Prop} (hgd:o.guard=none) (s x:Operand) (t:TypeId)
  (ho:o.op=.call { callee:=.builtin .append,args:=#[s,x],argTypes:=#[t,t] })
  (base:Nat) (e:TypeId) (i:TypeInfo) (z:Value) (size bytes:Nat) (ht:P.underlying t=some (.slice e)) (hi:P.info? e=some i) (hz:i.zero=some z)
  (hsize:i.size=size) (hby:i.bytes=bytes) (hzs:z.cells.size=size) (hsz:0<size)
  (v:Value) (n:Nat) (xs:List Value) (hs:a.eval s=v) (hown:w.ownsRow base e size v n xs)
  (ad:Addr) (m c:Nat) (news:List Value) (hx:a.eval x=.slice (some ad) m c) (hl:news.length=m*size) (hnews:∀j u,news[j]?=some u→w.cell? (ad.add j)=some u) (h1:∀u∈news,u.oneCell'=true)
  (h63:n+m≤maxLen) (hbytes:(n+m)*bytes≤140737488355328) (hbase:base≤w.heap.size)
  (h:∀v' w',w'.ownsRow base e size v' (n+m) (xs++news)→w.grownBy w' v.ownBlock→(v'=.slice none 0 0↔v=.slice none 0 0∧m=0)→(v'.ownBlock=v.ownBlock∨v'.ownBlock=some w.heap.size)→K (a.put o.dst v') w') :
  if Region.wanted o (yielded ops a.tmps)=true then Oper.wp P o a w K Q else E:=by
 have hw:Region.wanted o (yielded ops a.tmps)=true:=by simp [Region.wanted,hgd]
 rw [if_pos hw]
 obtain ⟨v',w',hr,h2,h3,h4,h5⟩:=run_append_own_at (P:=P) w base t o.type e i z size bytes ht hi hz hsize hby hzs hsz v n xs hown ad m c news hl hnews h1 h63 hbytes hbase
 unfold Oper.wp execOp
 simp only [ho,resolve,invoke,builtin,Sem.run_bind,Sem.run_pure,Result.andThen_ok,List.map_toArray,List.map_cons,List.map_nil,hs,hx,hr]
 exact h v' w' h2 h3 h4 h5
end Go.Proofs.YthgikffcdgpgiaaGreatDoor

namespace Go.Proofs.YthgikffcdgpgiaaGreatDoor
open Go.RowKit
structure MbS (w:World) (base ns:Nat) (G m:Nat→Nat) (P:Nat→Nat→List Int) (U:Nat→Nat→Value):Prop where
 lt:∀s,s<ns→G s<base
 ne:∀s s',s<ns→s' < ns→s≠s'→G s≠G s'
 row:∀s,s<ns→w.rowIs (G s) 62 (m s) (U s)
 own:∀s i,s<ns→i<m s→w.ownsRow base 2 1 (U s i) (P s i).length ((P s i).map (Value.int .i64))
 dj:∀s i s' j,s<ns→s' < ns→i<m s→j<m s'→(s,i)≠(s',j)→(U s i).ownBlock=none∨(U s i).ownBlock≠(U s' j).ownBlock
section
variable {w w' w1 : World} {base ns : Nat} {G m : Nat → Nat} {P P' : Nat → Nat → List Int} {U : Nat → Nat → Value}
theorem MbS.below (h:MbS w base ns G m P U) (k:Below w.heap.size w w'):MbS w' base ns G m P U:=by
 refine ⟨h.lt,h.ne,fun s hs=>(h.row s hs).of_block (k.block _ (h.row s hs).lt),fun s i hs hi=>?_,h.dj⟩
 refine (h.own s i hs hi).kept (row:=none) ⟨k.os,k.tape,k.output,k.size,fun b hb _=>k.block b hb⟩ ?_
 cases (U s i).ownBlock<;>simp
theorem MbS.congr (h:MbS w base ns G m P U) (e:∀s i,s<ns→i<m s→P s i=P' s i):MbS w base ns G m P' U :=
 ⟨h.lt,h.ne,h.row,fun s i hs hi=>by rw [←e s i hs hi];exact h.own s i hs hi,h.dj⟩
theorem MbS.step (h:MbS w base ns G m P U) {s t:Nat} (hs:s<ns) (ht:t<m s) (x:Int) (v':Value) (hg:w.grownBy w1 (U s t).ownBlock)
  (ho:w1.ownsRow base 2 1 v' ((P s t).length+1) ((P s t).map (Value.int .i64)++[.int .i64 x])) (hat:v'.ownBlock=(U s t).ownBlock∨v'.ownBlock=some w.heap.size) :
  MbS (w1.setCell ⟨G s,t,none⟩ v') base ns G m (fun s' i=>if (s',i)=(s,t) then P s t++[x] else P s' i) (fun s' i=>if (s',i)=(s,t) then v' else U s' i):=by
 have hr:∀s',s' < ns→w1.rowIs (G s') 62 (m s') (U s'):=fun s' hs'=>(h.row s' hs').of_block (hg.block _ (h.row s' hs').lt (fun e=>by have:=((h.own s t hs ht).lt _ e.symm).1;have:=h.lt s' hs';omega))
 have fresh:∀s' q,s' < ns→q<m s'→(U s' q).ownBlock=none∨(U s' q).ownBlock≠some w.heap.size:=fun s' q hs' hq=>by
  by_cases e:(U s' q).ownBlock=some w.heap.size
  ·have:=((h.own s' q hs' hq).lt _ e).2;omega
  ·exact Or.inr e
 refine ⟨h.lt,h.ne,fun s' hs'=>?_,fun s' i hs' hi=>?_,fun s1 i s2 j h1 h2 hi hj hij=>?_⟩
 ·by_cases e:s'=s
  ·subst e
   exact ((hr s' hs').set t v').congr (fun i _=>by by_cases e2:i=t<;>simp [e2])
  ·exact ((hr s' hs').setOther (a:=⟨G s,t,none⟩) (fun e2=>h.ne s' s hs' hs e e2) v').congr (fun i _=>by simp [e])
 ·refine ownsRow_setCell_below ?_ (h.lt s hs) _
  by_cases e:(s',i)=(s,t)
  ·simp only [e,if_true,List.length_append,List.length_cons,List.length_nil,List.map_append,List.map_cons,List.map_nil]
   exact ho
  ·simp only [e,if_false]
   exact (h.own s' i hs' hi).kept hg (h.dj s' i s t hs' hs hi ht e)
 ·by_cases e1:(s1,i)=(s,t)
  ·have e2:¬(s2,j)=(s,t):=fun e=>hij (e1.trans e.symm)
   simp only [e1,if_true,e2,if_false]
   rcases hat with q | q
   ·rw [q]
    exact h.dj s t s2 j hs h2 ht hj (fun e=>e2 e.symm)
   ·right
    rw [q]
    intro hh
    rcases fresh s2 j h2 hj with f | f
    ·rw [f] at hh;cases hh
    ·exact f hh.symm
  ·simp only [e1,if_false]
   by_cases e2:(s2,j)=(s,t)
   ·simp only [e2,if_true]
    rcases hat with q | q
    ·rw [q];exact h.dj s1 i s t h1 hs hi ht e1
    ·rw [q];exact fresh s1 i h1 hi
   ·simp only [e2,if_false]
    exact h.dj s1 i s2 j h1 h2 hi hj hij
theorem MbS.other (h:MbS w base ns G m P U) {b T q:Nat} {f:Nat→Value} (hb:w.rowIs b T q f) (hT:T≠2) {s i:Nat} (hs:s<ns) (hi:i<m s):(U s i).ownBlock≠some b:=fun e=>by
 obtain ⟨c,h1,_⟩:=hb
 rcases (h.own s i hs hi).2 with ⟨e1,_⟩ | ⟨g,cap,cur,e1,_,h2,_⟩
 ·rw [e1] at e;cases e
 ·rw [e1] at e
  injection e with e
  have e:g=b:=e
  subst e
  rw [show w.heap[g]?=_ from h1] at h2
  injection h2 with h2
  injection h2 with _ h3
  exact hT h3
theorem MbS.ints (h:MbS w base ns G m P U) {s:Nat} (hs:s<ns) {L:Nat} (hL:L≤G s):IntssAt w L w.heap.size (some ⟨G s,0,none⟩) ((List.range (m s)).map (P s)):=fun i hi=>by
 simp only [List.length_map,List.length_range] at hi
 obtain ⟨a,c,hv,ha⟩:=ints_owned (h.own s i hs hi)
 refine ⟨G s,0,rfl,⟨hL,(h.row s hs).lt⟩,a,c,?_,?_⟩
 ·simp only [List.getElem_map,List.getElem_range,Nat.zero_add]
  rw [(h.row s hs).cell hi,hv]
 ·simp only [List.getElem_map,List.getElem_range]
  exact ha.mono (by have:=h.lt s hs;omega) (Nat.le_refl _)
end
structure LvM (w3 wr:World) (ns:Nat) (G m:Nat→Nat) (P:Nat→Nat→List Int):Prop where
 os:wr.os=w3.os
 tape:wr.tape=w3.tape
 output:wr.output=w3.output
 size:w3.heap.size≤wr.heap.size
 fr:∀q,q<w3.heap.size→(∀s,s<ns→q≠G s)→wr.heap[q]?=w3.heap[q]?
 db:∃U,MbS wr w3.heap.size ns G m P U
section
variable {w3 wr wr' w8 : World} {ns : Nat} {G m : Nat → Nat} {P P' : Nat → Nat → List Int}
theorem LvM.below (h:LvM w3 wr ns G m P) (k:Below wr.heap.size wr wr'):LvM w3 wr' ns G m P:=by
 obtain ⟨U,hU⟩:=h.db
 have:=h.size
 exact ⟨k.os.trans h.os,k.tape.trans h.tape,k.output.trans h.output,Nat.le_trans h.size k.size,fun q h1 h2=>(k.block q (by omega)).trans (h.fr q h1 h2),U,hU.below k⟩
theorem LvM.congr (h:LvM w3 wr ns G m P) (e:∀s i,s<ns→i<m s→P s i=P' s i):LvM w3 wr ns G m P':=by
 obtain ⟨U,hU⟩:=h.db
 exact ⟨h.os,h.tape,h.output,h.size,h.fr,U,hU.congr e⟩
theorem LvM.cell (h:LvM w3 wr ns G m P) {b o:Nat} {v:Value} (h1:∀s,s<ns→b≠G s) (hc:w3.cell? ⟨b,o,none⟩=some v):wr.cell? ⟨b,o,none⟩=some v:=(cell_of (h.fr b (World.block_lt_of_cell? w3 _ hc) h1)).trans hc
theorem LvM.push {U:Nat→Nat→Value} {s t:Nat} {ob:Obj} {x:Int} {v':Value} (h:LvM w3 wr ns G m P) (hU:MbS wr w3.heap.size ns G m P U) (hs:s<ns) (ht:t<m s) (hg:(wr.drew.alloc ob).grownBy w8 (U s t).ownBlock) (ho:w8.ownsRow w3.heap.size 2 1 v' ((P s t).length+1) ((P s t).map (Value.int .i64)++[.int .i64 x])) (hat:v'.ownBlock=(U s t).ownBlock∨v'.ownBlock=some (wr.heap.size+1)) :
  LvM w3 (w8.setCell ⟨G s,t,none⟩ v') ns G m (fun s' i=>if (s',i)=(s,t) then P s t++[x] else P s' i)∧w8.cell? ⟨G s,t,none⟩=some (U s t)∧w8.frozen? ⟨G s,t,none⟩=false∧(∀q,q<wr.heap.size→q≠G s→(U s t).ownBlock≠some q→w8.heap[q]?=wr.heap[q]?∧(w8.setCell ⟨G s,t,none⟩ v').heap[q]?=wr.heap[q]?)∧wr.heap.size≤(w8.setCell ⟨G s,t,none⟩ v').heap.size:=by
 have hsz:=h.size
 have hgs:=hg.size
 have has:(wr.drew.alloc ob).heap.size=wr.heap.size+1:=World.size_alloc _ _
 have hal:∀k,k<wr.heap.size→(wr.drew.alloc ob).heap[k]?=wr.heap[k]?:=fun k hk=>Below.heap_alloc wr.drew _ _ hk
 have hU':MbS (wr.drew.alloc ob) w3.heap.size ns G m P U:=hU.below ⟨rfl,rfl,rfl,by omega,hal⟩
 have hst:=hU'.step hs ht x v' hg ho (by rw [has];exact hat)
 have hnu:∀k,k<w3.heap.size→(U s t).ownBlock≠some k:=fun k hk e=>by have:=((hU.own s t hs ht).lt k e).1;omega
 have hbk:∀k,k<wr.heap.size→(U s t).ownBlock≠some k→w8.heap[k]?=wr.heap[k]?:=fun k h1 h3=>(hg.block k (by omega) (fun e=>h3 e.symm)).trans (hal k h1)
 have hG:=hU.lt s hs
 have hGb:=hbk (G s) (by omega) (hnu _ hG)
 refine ⟨⟨hg.os.trans h.os,hg.tape.trans h.tape,hg.output.trans h.output,by rw [size_setCell];omega,fun q h1 h2=>?_,_,hst⟩,(cell_of hGb).trans ((hU.row s hs).cell ht),(World.frozen?_of_block hGb).trans ((hU.row s hs).frozen t),fun q h1 h2 h3=>⟨hbk q h1 h3,(Below.heap_setCell _ _ _ _ h2).trans (hbk q h1 h3)⟩,by rw [size_setCell];omega⟩
 exact (Below.heap_setCell _ _ _ _ (h2 s hs)).trans ((hbk q (by omega) (hnu q h1)).trans (h.fr q h1 h2))
end
end Go.Proofs.YthgikffcdgpgiaaGreatDoor

namespace Go.Proofs.YthgikffcdgpgiaaGreatDoor
open Go.RowKit
noncomputable def ptQ (xs:List Blk) (v b i:Nat):List Int:=match xs[b]? with
 | none=>[]
 | some x=>natI (ptP xs x v b i)
open Classical in
noncomputable def psB (xs:List Blk) (b i v:Nat):Bool:=match xs[b]? with
 | none=>false
 | some x=>PsP xs x b i v (decide (Lou xs v b))
theorem ptQ_zero (xs:List Blk) (b i:Nat):ptQ xs 0 b i=[]:=by
 unfold ptQ
 cases xs[b]?<;>rfl
theorem ptQ_succ (xs:List Blk) (v b i:Nat):ptQ xs (v+1) b i=if psB xs b i v=true then ptQ xs v b i++[(v:Int)] else ptQ xs v b i:=by
 unfold ptQ psB
 cases xs[b]? with
 | none=>simp
 | some x =>
  simp only
  unfold ptP
  rw [List.range_succ,List.filter_append]
  by_cases h:PsP xs x b i v (@decide (Lou xs v b) (Classical.propDecidable _))=true
  ·rw [if_pos h]
   simp [h,natI]
  ·rw [if_neg h]
   simp [h]
theorem ptQ_len (xs:List Blk) (v b i:Nat):(ptQ xs v b i).length≤v:=by
 unfold ptQ
 cases xs[b]? with
 | none=>exact Nat.zero_le _
 | some x =>
  simp only [natI,List.length_map]
  unfold ptP
  exact Nat.le_trans (List.length_filter_le _ _) (by simp)
noncomputable def pQ (xs:List Blk) (v b i:Nat) (s j:Nat):List Int:=if s<b∨s=b∧j<i then ptQ xs (v+1) s j else ptQ xs v s j
theorem pQ_zero (xs:List Blk) (v:Nat) (s j:Nat):pQ xs v 0 0 s j=ptQ xs v s j:=by
 unfold pQ
 rw [if_neg (by omega)]
theorem pQ_all (xs:List Blk) (v n:Nat) {s:Nat} (j:Nat) (hs:s<n):pQ xs v n 0 s j=ptQ xs (v+1) s j:=by
 unfold pQ
 rw [if_pos (Or.inl hs)]
theorem pQ_next {xs:List Blk} {v b m:Nat} {s j:Nat} (hj:s=b→j<m):pQ xs v b m s j=pQ xs v (b+1) 0 s j:=by
 unfold pQ
 by_cases h:s<b+1
 ·rw [if_pos (by by_cases e:s=b;(· exact Or.inr ⟨e,hj e⟩);(· exact Or.inl (by omega))),if_pos (Or.inl h)]
 ·rw [if_neg (by omega),if_neg (by omega)]
theorem pQ_no {xs:List Blk} {v b i:Nat} (h:psB xs b i v=false) (s j:Nat):pQ xs v b i s j=pQ xs v b (i+1) s j:=by
 unfold pQ
 by_cases e:s=b∧j=i
 ·obtain ⟨rfl,rfl⟩:=e
  rw [if_neg (by omega),if_pos (by omega),ptQ_succ,h]
  simp
 ·by_cases h1:s<b∨s=b∧j<i
  ·rw [if_pos h1,if_pos (by omega)]
  ·rw [if_neg h1,if_neg (by omega)]
theorem pQ_yes {xs:List Blk} {v b i:Nat} (h:psB xs b i v=true) (s j:Nat):(if (s,j)=(b,i) then pQ xs v b i b i++[(v:Int)] else pQ xs v b i s j)=pQ xs v b (i+1) s j:=by
 by_cases e:(s,j)=(b,i)
 ·rw [if_pos e]
  injection e with e1 e2
  subst e1 e2
  unfold pQ
  rw [if_neg (by omega),if_pos (by omega),ptQ_succ,if_pos h]
 ·rw [if_neg e]
  have e':¬(s=b∧j=i):=fun h=>e (by rw [h.1,h.2])
  unfold pQ
  by_cases h1:s<b∨s=b∧j<i
  ·rw [if_pos h1,if_pos (by omega)]
  ·rw [if_neg h1,if_neg (by omega)]
theorem pQ_len (xs:List Blk) (v b i s j:Nat):(pQ xs v b i s j).length≤v+1:=by
 unfold pQ
 split
 ·exact ptQ_len _ _ _ _
 ·have:=ptQ_len xs v s j;omega
structure RwS (w2 wr:World) (u:Value) (b:Nat) (m:Nat→Nat) (G:Nat→Nat):Prop where
 low:Below w2.heap.size w2 wr
 own:wr.ownsRow w2.heap.size 59 1 u b ((List.range b).map fun s=>.slice (some ⟨G s,0,none⟩) (m s) (m s))
 row:∀s,s<b→w2.heap.size≤G s∧wr.rowIs (G s) 62 (m s) (fun _=>.slice none 0 0)
 ne:∀s s',s<b→s' < b→s≠s'→G s≠G s'
theorem RwS.start (w2:World) (m:Nat→Nat):RwS w2 (w2.alloc (.cells #[] 59)) (.slice (some ⟨w2.heap.size,0,none⟩) 0 0) 0 m (fun _=>0):=⟨balloc (Below.refl _ _) _,World.ownsRow_lit (base:=w2.heap.size) (e:=59) (size:=1) w2 #[] 0 (by simp) (by simp) rfl,fun s h=>absurd h (by omega),fun s s' h=>absurd h (by omega)⟩
theorem RwS.push {w2 wr w8:World} {u u':Value} {b:Nat} {m:Nat→Nat} {G:Nat→Nat} {ob:Obj} (h:RwS w2 wr u b m G) (hg:((wr.alloc (.cells (madeCells #[.slice none 0 0] (m b)) 62)).alloc ob).grownBy w8 u.ownBlock) (ho:w8.ownsRow w2.heap.size 59 1 u' (b+1) ((List.range b).map (fun s=>Value.slice (some ⟨G s,0,none⟩) (m s) (m s))++[.slice (some ⟨wr.heap.size,0,none⟩) (m b) (m b)])) :
  RwS w2 w8 u' (b+1) m (fun s=>if s=b then wr.heap.size else G s):=by
 have hz:=h.low.size
 have hgs:=hg.size
 rw [World.size_alloc,World.size_alloc] at hgs
 have hnu:∀q T k f,wr.rowIs q T k f→T≠59→u.ownBlock≠some q:=fun q T k f hr hT e=>by
  obtain ⟨c,h1,_⟩:=hr
  rcases h.own.2 with ⟨e1,_⟩ | ⟨g,cap,cur,e1,_,h2,_⟩
  ·rw [e1] at e;cases e
  ·rw [e1] at e
   injection e with e
   have e:g=q:=e
   subst e
   rw [show wr.heap[g]?=_ from h1] at h2
   injection h2 with h2
   injection h2 with _ h3
   exact hT h3
 have hul:∀q,u.ownBlock=some q→q<wr.heap.size:=fun q e=>(h.own.lt q e).2
 have hold:∀q,q<wr.heap.size→u.ownBlock≠some q→w8.heap[q]?=wr.heap[q]?:=fun q h1 h2=>(hg.block q (by rw [World.size_alloc,World.size_alloc];omega) (fun e=>h2 e.symm)).trans ((Below.heap_alloc _ _ _ (by rw [World.size_alloc];omega)).trans (Below.heap_alloc _ _ _ h1))
 have hnew:w8.heap[wr.heap.size]?=(wr.alloc (.cells (madeCells #[.slice none 0 0] (m b)) 62)).heap[wr.heap.size]?:=(hg.block _ (by rw [World.size_alloc,World.size_alloc];omega) (fun e=>by have:=hul _ e.symm;omega)).trans (Below.heap_alloc _ _ _ (by rw [World.size_alloc];omega))
 refine ⟨⟨hg.os.trans h.low.os,hg.tape.trans h.low.tape,hg.output.trans h.low.output,by omega,fun q hq=>(hold q (by omega) (fun e=>by have:=(h.own.lt q e).1;omega)).trans (h.low.block q hq)⟩,?_,fun s hs=>?_,fun s s' h1 h2 h3=>?_⟩
 ·rw [List.range_succ,List.map_append,List.map_cons,List.map_nil,if_pos rfl,List.map_congr_left (g:=fun s=>Value.slice (some ⟨G s,0,none⟩) (m s) (m s)) (fun s hs=>by rw [if_neg (by have:=List.mem_range.1 hs;omega)])]
  exact ho
 ·by_cases e:s=b
  ·subst e
   rw [if_pos rfl]
   exact ⟨hz,(World.rowIs_made wr (.slice none 0 0) (m s) 62).of_block hnew⟩
  ·rw [if_neg e]
   have hr:=h.row s (by omega)
   exact ⟨hr.1,hr.2.of_block (hold _ hr.2.lt (hnu _ _ _ _ hr.2 (by decide)))⟩
 ·have hlt:∀s,s<b→G s<wr.heap.size:=fun s hs=>(h.row s hs).2.lt
  by_cases e1:s=b
  ·have:=hlt s' (by omega)
   rw [if_pos e1,if_neg (by omega)]
   omega
  ·by_cases e2:s'=b
   ·have:=hlt s (by omega)
    rw [if_neg e1,if_pos e2]
    omega
   ·rw [if_neg e1,if_neg e2]
    exact h.ne s s' (by omega) (by omega) h3
end Go.Proofs.YthgikffcdgpgiaaGreatDoor

namespace Go.Proofs.YthgikffcdgpgiaaGreatDoor
open Go.RowKit
open Classical in
noncomputable def nwB (xs:List Blk) (b v k:Nat):Bool:=match xs[b]? with
 | none=>false
 | some x=>nowP x v (decide (Lou xs v b)) k
section
variable {xs : List Blk} {b v : Nat}
theorem psB_zero:psB xs b 0 v=(nwB xs b v 0||phiB xs b v):=by
 unfold psB nwB phiB
 cases h:xs[b]? with
 | none=>rfl
 | some x=>simp only [PsP,phiB,h]
theorem psB_succ {j:Nat} (hj:j<(dfL xs b).length):psB xs b (j+1) v=(nwB xs b v (j+1)||decide ((dfL xs b)[j]=(v:Int))):=by
 have hj':=hj
 revert hj
 unfold psB nwB dfL at *
 cases h:xs[b]? with
 | none=>intro hj;exact absurd hj (by simp)
 | some x =>
  intro hj
  simp only [dfsM,List.length_map] at hj
  simp only [PsP,dfsM,List.getElem_map]
  rw [List.getElem?_eq_getElem hj]
open Classical in
theorem nwB_top (hb:b<xs.length) {q:Bool} (hq:q=true↔Lou xs v b):nwB xs b v (dfL xs b).length=(q||hasI (rtL xs b) (v:Int)):=by
 have e:(@decide (Lou xs v b) (Classical.propDecidable _))=q:=by rw [Bool.eq_iff_iff,hq,decide_eq_true_eq]
 unfold nwB dfL rtL
 rw [List.getElem?_eq_getElem hb]
 simp only [dfsM,List.length_map]
 rw [now_end _ _ _ (Nat.le_refl _),e,Bool.or_comm]
theorem nwB_step {j:Nat} (hj:j<(dfL xs b).length) (hr:j<(rdL xs b).length):nwB xs b v j=(hasI (rdL xs b)[j] (v:Int)||(nwB xs b v (j+1) && !decide ((dfL xs b)[j]=(v:Int)))):=by
 revert hj hr
 unfold nwB dfL rdL
 cases h:xs[b]? with
 | none=>intro hj;exact absurd hj (by simp)
 | some x =>
  intro hj hr
  simp only [dfsM,List.length_map] at hj
  simp only [dfsM,rdsM,List.getElem_map]
  exact now_step _ _ _ hj
open Classical in
theorem nwB_lbe (hb:b<xs.length):nwB xs b v 0=true↔Lbe xs v b:=by
 unfold nwB
 rw [List.getElem?_eq_getElem hb]
 exact now_lbe hb (by rw [decide_eq_true_eq])
theorem rd_len:(rdL xs b).length=(dfL xs b).length:=by
 unfold rdL dfL
 cases xs[b]? with
 | none=>rfl
 | some x=>simp [rdsM,dfsM]
end
theorem rd_small (xs:List Blk) (b:Nat):∀l∈rdL xs b,l.length≤2:=fun l hl=>by
 unfold rdL at hl
 cases h:xs[b]? with
 | none=>rw [h] at hl;exact absurd hl List.not_mem_nil
 | some x =>
  rw [h] at hl
  obtain ⟨y,_,hy⟩:=List.mem_map.1 hl
  rw [←hy]
  exact rdI_le y
structure InX (wb wr:World) (gl n:Nat) (lv:Nat→Bool) (gi m:Nat) (f:Nat→Bool):Prop where
 low:Below wb.heap.size wb wr
 gll:gl<wb.heap.size
 lr:wr.rowIs gl 4 n (fun z=>.bool (lv z))
 ge:wb.heap.size≤gi
 ir:wr.rowIs gi 4 m (fun z=>.bool (f z))
section
variable {wb wr w' : World} {gl n gi m : Nat} {lv f f' : Nat → Bool}
theorem InX.below (h:InX wb wr gl n lv gi m f) (k:Below wr.heap.size wr w'):InX wb w' gl n lv gi m f:=⟨bnext h.low k,h.gll,h.lr.of_block (k.block _ h.lr.lt),h.ge,h.ir.of_block (k.block _ h.ir.lt)⟩
theorem InX.congr (h:InX wb wr gl n lv gi m f) (e:∀z,z<m→f z=f' z):InX wb wr gl n lv gi m f':=⟨h.low,h.gll,h.lr,h.ge,row_as (C:=Value.bool) h.ir e⟩
theorem InX.set (h:InX wb wr gl n lv gi m f) (k:Nat) (q:Bool):InX wb (wr.setCell ⟨gi,k,none⟩ (.bool q)) gl n lv gi m (fun z=>if z=k then q else f z):=by
 have:=h.ge
 have:=h.gll
 exact ⟨h.low.setCell (by show wb.heap.size≤gi;omega) _,h.gll,h.lr.setOther (by show gl≠gi;omega) _,h.ge,row_set (C:=Value.bool) h.ir k q⟩
end
noncomputable def inF (xs:List Blk) (b v k z:Nat):Bool:=decide (k<z)&&psB xs b z v
theorem inF_top {xs:List Blk} {b v k:Nat} {z:Nat} (hz:z<k+1):inF xs b v k z=false:=by unfold inF;simp;omega
theorem inF_next {xs:List Blk} {b v j:Nat} {q:Bool} (hq:q=psB xs b (j+1) v) (z:Nat):(if z=j+1 then q else inF xs b v (j+1) z)=inF xs b v j z:=by
 unfold inF
 by_cases e:z=j+1
 ·subst e
  rw [if_pos rfl,hq]
  simp
 ·rw [if_neg e]
  by_cases h:j<z
  ·rw [decide_eq_true h,decide_eq_true (show j+1<z by omega)]
  ·rw [decide_eq_false h,decide_eq_false (show ¬j+1<z by omega)]
theorem inF_all {xs:List Blk} {b v:Nat} {q:Bool} (hq:q=psB xs b 0 v) (z:Nat):(if z=0 then q else inF xs b v 0 z)=psB xs b z v:=by
 by_cases e:z=0
 ·subst e;rw [if_pos rfl,hq]
 ·rw [if_neg e]
  unfold inF
  rw [decide_eq_true (show 0<z by omega),Bool.true_and]
def PtsA (w w':World) (n V:Nat) (xs:List Blk) (e:Ending):Prop:=∃(gO cO:Nat) (G:Nat→Nat),e=.returned (.slice (some ⟨gO,0,none⟩) n cO)∧Below w.heap.size w w'∧w.heap.size≤gO∧∀s,s<n→w'.cell? ⟨gO,s,none⟩=some (.slice (some ⟨G s,0,none⟩) ((dfL xs s).length+1) ((dfL xs s).length+1))∧w.heap.size≤G s∧IntssAt w' w.heap.size w'.heap.size (some ⟨G s,0,none⟩) ((List.range ((dfL xs s).length+1)).map (ptQ xs V s))
end Go.Proofs.YthgikffcdgpgiaaGreatDoor
