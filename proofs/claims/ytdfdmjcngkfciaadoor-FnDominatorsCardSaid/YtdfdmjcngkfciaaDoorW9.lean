import Derived.Test.YtdfdmjcngkfciaaDoorW7
import Derived.Test.YtdfdmjcngkfciaaDoorW2
import Derived.Test.YtdfdmjcngkfciaaDoorPure
import Derived.Test.YtdfdmjcngkfciaaDoorMem
import Derived.Laws.OwnMore
import Derived.Test.YtdfdmjcngkfciaaDoorNSP
import Derived.Lib.AppendZerosOnto
import Derived.Lib.Walk
import Derived.Lib.SliceRun
namespace Go.Proofs.YtdfdmjcngkfciaaDoor
open Go.RowKit
theorem phDefs_snoc (ps:List Ph) (p:Ph):phDefs (ps++[p])=phDefs ps++[p.dst]:=by simp [phDefs]
theorem insDefs_snoc (ps:List Ins) (p:Ins):insDefs (ps++[p])=insDefs ps++(if dB p.op then [p.dst] else []):=by
 simp only [insDefs,List.filter_append,List.map_append]
 congr 1
 cases h:dB p.op<;>simp [h]
theorem blksDefs_snoc (ps:List Blk) (p:Blk):blksDefs (ps++[p])=blksDefs ps++blkDefs p:=by simp [blksDefs]
theorem insDefs_len (xs:List Ins):(insDefs xs).length≤xs.length:=by simp only [insDefs,List.length_map];exact List.length_filter_le _ _
theorem blksDefs_len (xs:List Blk):(blksDefs xs).length≤blksTot xs:=by
 induction xs with
 | nil=>simp [blksDefs]
 | cons x xs ih =>
  have h1:blksDefs (x::xs)=blkDefs x++blksDefs xs:=by simp [blksDefs]
  have h2:blksTot (x::xs)=blkTot x+blksTot xs:=by simp [blksTot]
  have h3:(blkDefs x).length≤blkTot x:=by
   simp only [blkDefs,phDefs,List.length_append,List.length_map,blkTot]
   have:=insDefs_len x.instrs
   omega
  rw [h1,h2,List.length_append]
  omega
theorem own_step {w wr w1:World} {u:Value} {n:Nat} {xs:List Value} {a:Option Addr} {N c:Nat} (hw:Below w.heap.size w wr) (hsz:w.heap.size<wr.heap.size) (hcell:wr.cell? ⟨w.heap.size,1,none⟩=some (.slice a N c))
  (o:Obj) (hown:wr.ownsRow (w.heap.size+1) 2 1 u n xs) (hg:(wr.alloc o).grownBy w1 u.ownBlock) :
  Below w.heap.size w w1∧w.heap.size<w1.heap.size∧w1.cell? ⟨w.heap.size,1,none⟩=some (.slice a N c)∧wr.heap.size≤w1.heap.size:=by
 have hz:=hg.size
 simp at hz
 refine ⟨grown_below (balloc hw _) hg (hown.alloc _) (by omega) (by simp;omega),by omega,?_,by omega⟩
 exact (cell_of (grown_block hg (hown.alloc _) (b:=w.heap.size) (by omega) (by simp;omega))).trans (((balloc (Below.refl wr.heap.size wr) _).cell (p:=⟨w.heap.size,1,none⟩) hsz).trans hcell)
set_option maxHeartbeats 2000000 in
theorem l1Defs_any (v:Int) (a:Option Addr) (n c:Nat) (xs:List Blk) (L B:Nat) (w:World) (ha:Hid (BlksAt w L B a xs)) (hx:Hid (n=xs.length)) (hn:n≤1048576) (hs:Hid (blksTot xs≤1048576)) (hB:B≤w.heap.size) :
  Calls Tryd.prog 25 #[.agg #[.int .i64 v,.slice a n c]] w fun e w'=>∃a' c',e=.returned (.slice a' (blksDefs xs).length c')∧Below w.heap.size w w'∧IntsAt w' w.heap.size w'.heap.size a' (blksDefs xs):=by
 obtain ⟨i0,hi0,hz0,hz1,hz2⟩:=info_parts Tryd.info2'
 go_enter Tryd.func25,Tryd.ntmps25
 go_wp2
 go_loopw [3,4] (fun u i wr=>∃k:Nat,k≤n∧i=.int .i64 k∧Below w.heap.size w wr∧w.heap.size<wr.heap.size∧wr.cell? ⟨w.heap.size,1,none⟩=some (.slice a n c)∧wr.ownsRow (w.heap.size+1) 2 1 u (blksDefs (xs.take k)).length ((blksDefs (xs.take k)).map (Value.int .i64))) (fun _ i _=>n-(intOf i).toNat)
 case atStart=>exact ⟨0,Nat.zero_le _,rfl,balloc (balloc (Below.refl _ _) _) _,by simp;omega,by simp,own_empty _ _⟩
 case round =>
  obtain ⟨k,hk,rfl,hw,hsz,hcell,hown⟩:=hrel
  by_cases hlt:k<n
  ·have hkx:k<xs.length:=by have:=hx.out;omega
   obtain ⟨b,o,rfl,⟨_,hbB⟩,hc⟩:=ha.out k hkx
   have HC:=hide hc
   have hnx:Hid (blksDefs (xs.take (k+1))=blksDefs (xs.take k)++(phDefs xs[k].phis++insDefs xs[k].instrs)):=by
    show _=_
    rw [take_next _ _ hkx,blksDefs_snoc];rfl
   have hbd:(blksDefs (xs.take k)).length+(xs[k].phis.length+phTot xs[k].phis+xs[k].instrs.length)≤1048576:=by
    have h1:=blksTot_take xs (k+1)
    rw [take_next _ _ hkx,blksTot_snoc] at h1
    have h2:=blksDefs_len (xs.take k)
    have h3:=hs.out
    have h4:blkTot xs[k]=xs[k].phis.length+phTot xs[k].phis+xs[k].instrs.length:=rfl
    omega
   have hpl:xs[k].phis.length≤1048576:=by omega
   have hil:xs[k].instrs.length≤1048576:=by omega
   have HO:=hide hown
   clear hown hc
   generalize hX:xs[k]=X at *
   clear hX
   generalize blksDefs (xs.take k)=D at *
   obtain ⟨pa,pc,ia,ic,e0,e1,_,hp,hi⟩:=HC.out
   have HP:=hide hp
   have HI:=hide hi
   have E0:=hide e0
   have E1:=hide e1
   clear e0 e1 hp hi HC
   go_wp2
   go_loopw [3,5] (fun u i wi=>∃j:Nat,j≤X.phis.length∧i=.int .i64 j∧Below w.heap.size w wi∧w.heap.size<wi.heap.size∧wi.cell? ⟨w.heap.size,1,none⟩=some (.slice (some ⟨b,o,none⟩) n c)∧wi.ownsRow (w.heap.size+1) 2 1 u (D++phDefs (X.phis.take j)).length ((D++phDefs (X.phis.take j)).map (Value.int .i64))) (fun _ i _=>X.phis.length-(intOf i).toNat)
   case atStart=>exact ⟨0,Nat.zero_le _,rfl,hw,hsz,hcell,by simpa [phDefs] using HO.out⟩
   case round =>
    obtain ⟨j,hj,rfl,hwi,hszi,hcelli,howni⟩:=hrel
    have f0:=(cTr hwi (by omega)).trans E0.out
    have f1:=(cTr hwi (by omega)).trans E1.out
    by_cases hjt:j<X.phis.length
    ·obtain ⟨b',o',rfl,⟨_,hbB'⟩,aa,cc,g0,g1,_⟩:=HP.out j hjt
     have e2:=(cTr hwi (by omega)).trans g0
     have h3:Hid (D++phDefs (X.phis.take (j+1))=(D++phDefs (X.phis.take j))++[X.phis[j].dst]):=by show _=_;rw [take_next _ _ hjt,phDefs_snoc,List.append_assoc]
     have hl:(D++phDefs (X.phis.take j)).length≤1048576:=by simp [phDefs];omega
     clear g0 g1
     generalize X.phis[j]=P at *
     generalize D++phDefs (X.phis.take j)=D1 at *
     have HOi:=hide howni
     clear howni f1
     go_wp2_with (at_builtin;refine wpList_append_own _ rfl _ _ 29 rfl (w.heap.size+1) 2 i0 (.int .i64 0) 1 8 Tryd.underlying29 hi0 hz0 hz1 hz2 rfl (by decide) _ _ _ rfl (HOi.out.alloc _) ⟨wr.heap.size,0,none⟩ 1 1 [.int .i64 P.dst] rfl rfl ?c1 ?c2 ?c3 ?c4 ?c5 ?_)
     case c1 =>
      intro j u hj
      match j,hj with
      | 0,hj=>simp at hj;subst hj;simp [Addr.add]
     case c2=>intro u hu;simp at hu;subst hu;rfl
     case c3=>unfold maxLen;omega
     case c4=>omega
     case c5=>simp;omega
     intro v1 w1 hown1 hgrow1 _
     have HO1:=hide hown1
     clear hown1
     go_wp2
     obtain ⟨q1,q2,q3,_⟩:=own_step hwi hszi hcelli _ HOi.out hgrow1
     exact ⟨⟨j+1,by omega,by go_num,q1,q2,q3,by rw [h3.out,ints_snoc];simpa using HO1.out⟩,by simp [intOf];omega⟩
    ·have hE:=hide (List.take_of_length_le (l:=X.phis) (i:=j) (by omega))
     have HOi:=hide howni
     clear howni
     go_wp2
     go_loopw [3,6] (fun u i wi=>∃j:Nat,j≤X.instrs.length∧i=.int .i64 j∧Below w.heap.size w wi∧w.heap.size<wi.heap.size∧wi.cell? ⟨w.heap.size,1,none⟩=some (.slice (some ⟨b,o,none⟩) n c)∧wi.ownsRow (w.heap.size+1) 2 1 u (D++phDefs X.phis++insDefs (X.instrs.take j)).length ((D++phDefs X.phis++insDefs (X.instrs.take j)).map (Value.int .i64))) (fun _ i _=>X.instrs.length-(intOf i).toNat)
     case atStart=>exact ⟨0,Nat.zero_le _,rfl,hwi,hszi,hcelli,by have:=HOi.out;rw [hE.out] at this;simpa [insDefs] using this⟩
     case round =>
      clear hwi hszi hcelli f0 f1 HOi hE
      obtain ⟨j,hj,rfl,hwi,hszi,hcelli,howni⟩:=hrel
      have f1:=(cTr hwi (by omega)).trans E1.out
      by_cases hjt:j<X.instrs.length
      ·obtain ⟨b',o',rfl,⟨_,hbB'⟩,g0,g1,_,_,_⟩:=HI.out j hjt
       have e2:=(cTr hwi (by omega)).trans g0
       have e3:=(cTr hwi (by omega)).trans g1
       have h3:Hid (D++phDefs X.phis++insDefs (X.instrs.take (j+1))=(D++phDefs X.phis++insDefs (X.instrs.take j))++(if dB X.instrs[j].op then [X.instrs[j].dst] else [])):=by show _=_;rw [take_next _ _ hjt,insDefs_snoc,←List.append_assoc]
       have hl:(D++phDefs X.phis++insDefs (X.instrs.take j)).length≤1048576:=by have:=insDefs_len (X.instrs.take j);simp [phDefs] at this ⊢;omega
       clear g0 g1
       generalize X.instrs[j]=P at *
       generalize D++phDefs X.phis++insDefs (X.instrs.take j)=D1 at *
       have HOi:=hide howni
       clear howni
       cases hd:dB P.op
       ·have HD:=hide hd
        go_wp2_with (go_at_call 42;refine (usedD _ _).mono ?_;rintro e w2 ⟨rfl,hw2⟩;rw [hw2];clear hw2 w2)
        exact ⟨⟨j+1,by omega,by go_num,hwi,hszi,hcelli,by rw [h3.out,HD.out];simpa using HOi.out⟩,by simp [intOf];omega⟩
       ·have HD:=hide hd
        go_wp2_with (first | (go_at_call 42;refine (usedD _ _).mono ?_;rintro e w2 ⟨rfl,hw2⟩;rw [hw2];clear hw2 w2) | (at_builtin;refine wpList_append_own _ rfl _ _ 29 rfl (w.heap.size+1) 2 i0 (.int .i64 0) 1 8 Tryd.underlying29 hi0 hz0 hz1 hz2 rfl (by decide) _ _ _ rfl (HOi.out.alloc _) ⟨wr.heap.size,0,none⟩ 1 1 [.int .i64 P.dst] rfl rfl ?c1 ?c2 ?c3 ?c4 ?c5 ?_))
        case c1 =>
         intro j u hj
         match j,hj with
         | 0,hj=>simp at hj;subst hj;simp [Addr.add]
        case c2=>intro u hu;simp at hu;subst hu;rfl
        case c3=>unfold maxLen;omega
        case c4=>omega
        case c5=>simp;omega
        intro v1 w1 hown1 hgrow1 _
        have HO1:=hide hown1
        clear hown1
        go_wp2
        obtain ⟨q1,q2,q3,_⟩:=own_step hwi hszi hcelli _ HOi.out hgrow1
        exact ⟨⟨j+1,by omega,by go_num,q1,q2,q3,by rw [h3.out,HD.out,if_pos rfl,ints_snoc];simpa using HO1.out⟩,by simp [intOf];omega⟩
      ·have hE:=hide (List.take_of_length_le (l:=X.instrs) (i:=j) (by omega))
       have HOi:=hide howni
       clear howni
       go_wp2
       exact ⟨⟨k+1,by omega,by go_num,hwi,hszi,hcelli,by have:=HOi.out;rw [hE.out] at this;rw [hnx.out,←List.append_assoc];exact this⟩,by simp [intOf];omega⟩
  ·go_wp2
   go_ret
   have e:=List.take_of_length_le (l:=xs) (i:=k) (by have:=hx.out;omega)
   rw [e] at hown
   obtain ⟨a1,c1,rfl,hi1⟩:=ints_owned hown
   exact ⟨_,_,rfl,hw,hi1.mono (by omega) (Nat.le_refl _)⟩
end Go.Proofs.YtdfdmjcngkfciaaDoor

namespace Go.Proofs.YtdfdmjcngkfciaaDoor
open Go.RowKit
theorem run_append_own_nilC {P:Program} {w:World} (base:Nat) (t ty e:TypeId) (i:TypeInfo) (size:Nat) (ht:P.underlying t=some (.slice e)) (hi:P.info? e=some i)
  (v:Value) (n c:Nat) (xs:List Value) (hown:w.ownsRow base e size v n xs) :
  (Builtin.append_ #[t,t] ty #[v,.slice none 0 c]).run P w=.ok v w:=by
 rcases hown.2 with ⟨rfl,rfl⟩ | ⟨g,cap,cur,rfl,_,_,hnc,_⟩
 ·simp [Builtin.append_,run_underlying ht,sizeOf,typeInfo,hi,Builtin.lenOf,Builtin.firstCells]
 ·simp [Builtin.append_,run_underlying ht,sizeOf,typeInfo,hi,Builtin.lenOf,Builtin.firstCells,hnc,storeCells]
theorem ints_news {w:World} {L B:Nat} {ad:Addr} {qs:List Int} (hv:IntsAt w L B (some ad) qs):∀j u,(qs.map (Value.int .i64))[j]?=some u→w.cell? (ad.add j)=some u:=by
 intro j u hj
 have hl:j<qs.length:=by
  rcases Nat.lt_or_ge j qs.length with h | h
  ·exact h
  ·rw [List.getElem?_eq_none (by simpa using h)] at hj;cases hj
 obtain ⟨b,o,e,-,hc⟩:=hv j hl
 cases e
 rw [List.getElem?_map,List.getElem?_eq_getElem hl] at hj
 cases hj
 rw [Addr.add_lit]
 exact hc
theorem wp_append_ints {P:Program} {w:World} {o:Oper} {a:Act} {K:Act→World→Prop} {Q:Exit→Act→World→Prop} (s x:Operand) (t:TypeId)
  (ho:o.op=.call { callee:=.builtin .append,args:=#[s,x],argTypes:=#[t,t] })
  (base:Nat) (e:TypeId) (i:TypeInfo) (ht:P.underlying t=some (.slice e)) (hi:P.info? e=some i) (hz:i.zero=some (.int .i64 0))
  (hsize:i.size=1) (hby:i.bytes=8)
  (v:Value) (xs:List Int) (hs:a.eval s=v) (hown:w.ownsRow base e 1 v xs.length (xs.map (Value.int .i64))) (hn:v≠.slice none 0 0)
  (ad:Option Addr) (m c:Nat) (qs:List Int) (L B:Nat) (hx:a.eval x=.slice ad m c) (hm:m=qs.length) (hv:IntsAt w L B ad qs)
  (hbytes:xs.length+m≤1000000000000) (hbase:base≤w.heap.size)
  (h:∀v' w',w'.ownsRow base e 1 v' (xs++qs).length ((xs++qs).map (Value.int .i64))→Gr w w' v v'→v'≠.slice none 0 0→K (a.put o.dst v') w') :
  o.wp P a w K Q:=by
 cases ad with
 | none =>
  have has:qs=[]:=by
   cases qs with
   | nil=>rfl
   | cons x r=>obtain ⟨_,_,e,_⟩:=hv 0 (by simp);cases e
  subst has
  subst hm
  have hrun:=run_append_own_nilC (P:=P) (w:=w) base t o.type e i 1 ht hi v xs.length c _ hown
  unfold Oper.wp execOp
  simp only [ho,resolve,invoke,builtin,Sem.run_bind,Sem.run_pure,Result.andThen_ok,List.map_toArray,List.map_cons,List.map_nil,hs,hx,List.length_nil,hrun]
  exact h v w (by simpa using hown) (Gr.refl _ _) hn
 | some ad =>
  obtain ⟨v',w',hr,h1,h2,h3,h4⟩:=run_append_own_at (P:=P) w base t o.type e i (.int .i64 0) 1 8 ht hi hz hsize hby rfl (by decide) v xs.length _ hown ad m c (qs.map (Value.int .i64)) (by simp [hm]) (ints_news hv) (by intro u hu;obtain ⟨z,-,rfl⟩:=List.mem_map.1 hu;rfl) (by unfold maxLen;omega) (by omega) hbase
  unfold Oper.wp execOp
  simp only [ho,resolve,invoke,builtin,Sem.run_bind,Sem.run_pure,Result.andThen_ok,List.map_toArray,List.map_cons,List.map_nil,hs,hx,hr]
  refine h v' w' (by rw [List.length_append,List.map_append,←hm];exact h1) ⟨h2,fun g hg=>?_⟩ (fun e=>hn (h3.1 e).1)
  rcases h4 with h4 | h4
  ·exact Or.inr (h4 ▸ hg)
  ·rw [h4] at hg;cases hg;exact Or.inl (Nat.le_refl _)
end Go.Proofs.YtdfdmjcngkfciaaDoor

namespace Go.Proofs.YtdfdmjcngkfciaaDoor
open Go.RowKit
def RevTo (L xs:List Int) (i:Nat):Prop:=xs.length=L.length∧∀k (h:k<L.length),xs[k]?=some (if k<i∨L.length≤k+i then L[L.length-1-k] else L[k])
theorem rev_zero (L:List Int):RevTo L L 0:=⟨rfl,fun k h=>by rw [if_neg (by omega),List.getElem?_eq_getElem h]⟩
theorem rev_done {L xs:List Int} {i:Nat} (h:RevTo L xs i) (hi:L.length≤2*i+1):xs=L.reverse:=by
 refine List.ext_getElem? (fun k=>?_)
 by_cases hk:k<L.length
 ·rw [h.2 k hk,List.getElem?_reverse hk,List.getElem?_eq_getElem (by omega)]
  split
  ·rfl
  ·have e:L.length-1-k=k:=by omega
   simp only [e]
 ·rw [List.getElem?_eq_none (by rw [h.1];omega),List.getElem?_eq_none (by rw [List.length_reverse];omega)]
theorem rev_step {L xs:List Int} {i:Nat} (h:RevTo L xs i) (hi:2*i+1<L.length) (h1:i<xs.length) (h2:L.length-1-i<xs.length):RevTo L ((xs.set i xs[L.length-1-i]).set (L.length-1-i) xs[i]) (i+1):=by
 refine ⟨by rw [List.length_set,List.length_set];exact h.1,fun k hk=>?_⟩
 have e1:=h.2 i (by omega)
 have e2:=h.2 (L.length-1-i) (by omega)
 rw [List.getElem?_eq_getElem h1,if_neg (by omega)] at e1
 rw [List.getElem?_eq_getElem h2,if_neg (by omega)] at e2
 injection e1 with e1
 injection e2 with e2
 rw [List.getElem?_set,List.length_set]
 by_cases c1:L.length-1-i=k
 ·subst c1
  rw [if_pos rfl,if_pos h2,if_pos (by omega),e1]
  have e:L.length-1-(L.length-1-i)=i:=by omega
  simp only [e]
 ·rw [if_neg c1,List.getElem?_set]
  by_cases c2:i=k
  ·subst c2
   rw [if_pos rfl,if_pos h1,if_pos (by omega),e2]
  ·rw [if_neg c2,h.2 k hk]
   by_cases c3:k<i∨L.length≤k+i
   ·rw [if_pos c3,if_pos (by omega)]
   ·rw [if_neg c3,if_neg (by omega)]
set_option maxHeartbeats 1000000 in
set_option maxRecDepth 100000 in
theorem reverse_any (g n c B:Nat) (L:List Int) (w:World) (hn:n≤1000000) (hx:Hid (n=L.length)) (ho:Hid (w.ownsRow B 2 1 (.slice (some ⟨g,0,none⟩) n c) n (L.map (Value.int .i64)))) :
  Calls Tryd.prog 16 #[.slice (some ⟨g,0,none⟩) n c] w fun e w'=>e=.returned (.tuple #[])∧w.grownBy w' (some g)∧w'.ownsRow B 2 1 (.slice (some ⟨g,0,none⟩) n c) n (L.reverse.map (Value.int .i64)):=by
 go_enter Tryd.func16,Tryd.ntmps16
 go_wp2
 go_loopw [2,3] (fun u v wr=>∃(i:Nat) (xs:List Int),u=.int .i64 i∧v=.int .i64 ((n:Int)-1-i)∧2*i≤n∧Hid (RevTo L xs i)∧Hid (w.grownBy wr (some g))∧Hid (wr.ownsRow B 2 1 (.slice (some ⟨g,0,none⟩) n c) n (xs.map (Value.int .i64)))) (fun u _ _=>n-(intOf u).toNat)
 case atStart=>exact ⟨0,L,rfl,by go_num,by omega,hide (rev_zero L),hide ⟨rfl,rfl,rfl,Nat.le_refl _,fun _ _ _=>rfl⟩,ho⟩
 case round =>
  obtain ⟨i,xs,rfl,rfl,hi,HR,HG,HO⟩:=hrel
  by_cases hlt:2*i+1<n
  ·have hl:=hx.out
   have hl2:=HR.out.1
   obtain ⟨j,hj⟩:∃j:Nat,(n:Int)-1-i=j:=⟨n-1-i,by omega⟩
   have hjn:j=L.length-1-i:=by omega
   have h1:i<xs.length:=by omega
   have h2:L.length-1-i<xs.length:=by omega
   have h2':j<xs.length:=by omega
   have HRS:=hide (rev_step HR.out (by omega) h1 h2)
   have e1:=own_cell HO.out (j:=i) (u:=.int .i64 xs[i]) (by simp [h1])
   have e2:=own_cell HO.out (j:=j) (u:=.int .i64 xs[j]) (by simp [h2'])
   have hz:=own_thaw HO.out
   have HJ:Hid (xs[L.length-1-i]=xs[j]):=hide (by simp only [hjn])
   rw [HJ.out,←hjn] at HRS
   have hij:i<j:=by omega
   have hjn2:j<n:=by omega
   have hin:i<n:=by omega
   have hj1:(j:Int)-1=(n:Int)-1-(i+1:Nat):=by omega
   have HJ1:=hide hj1
   have hc2:∀v,(wr.setCell ⟨g,i,none⟩ v).cell? ⟨g,j,none⟩=some (.int .i64 xs[j]):=fun v=>(set_other _ _ (by omega) _).trans e2
   clear hl hl2 hjn hj1 HJ
   rw [hj]
   generalize xs[i]=vi at *
   generalize xs[j]=vj at *
   go_wp2
   go_region
   go_wp2
   have kk:wr.grownBy ((wr.setCell ⟨g,i,none⟩ (.int .i64 vj)).setCell ⟨g,j,none⟩ (.int .i64 vi)).drew (some g):=⟨rfl,rfl,rfl,by simp [World.setCell,World.drew],fun k _ hk=>(Below.heap_setCell _ _ _ _ (fun e=>hk (by rw [e]))).trans (Below.heap_setCell _ _ _ _ (fun e=>hk (by rw [e])))⟩
   refine ⟨⟨i+1,_,by go_num,by rw [HJ1.out],by omega,HRS,hide (HG.out.andThen kk (fun j hj=>by cases hj;exact Or.inr rfl)),hide ?_⟩,by simp [intOf];omega⟩
   rw [List.map_set,List.map_set]
   exact own_set (own_set HO.out _) _
  ·have HE:Hid (xs=L.reverse):=hide (rev_done HR.out (by have:=hx.out;omega))
   go_wp2
   go_end0
   exact ⟨rfl,HG.out,by rw [←HE.out];exact HO.out⟩
set_option maxHeartbeats 1000000 in
set_option maxRecDepth 100000 in
theorem cloneI_any (b o n c:Nat) (vs:List Int) (L B:Nat) (w:World) (hv:Hid (IntsAt w L B (some ⟨b,o,none⟩) vs)) (hx:Hid (n=vs.length)) (hn:n≤1000000000) (hB:B≤w.heap.size) :
  Calls Tryd.prog 63 #[.slice (some ⟨b,o,none⟩) n c] w fun e w'=>∃v,e=.returned v∧Below w.heap.size w w'∧v≠.slice none 0 0∧w'.ownsRow w.heap.size 2 1 v vs.length (vs.map (Value.int .i64)):=by
 obtain ⟨i0,hi0,hz0,hz1,hz2⟩:=info_parts Tryd.info2'
 have q22:∀(w:World) (a:Option Addr) (n c n' c':Nat),(binOp .eql 29 (.slice a n c) (.slice none n' c')).run Tryd.prog w=.ok (.bool a.isNone) w:=fun w a n c n' c'=>Lib.run_eql_slice_nil w _ _ a n c n' c' Tryd.underlying29
 go_enter Tryd.func63,Tryd.ntmps63
 go_wp2_with (at_builtin;refine wpList_plain rfl fun K hK=>wp_append_ints _ _ 29 rfl w.heap.size 2 i0 Tryd.underlying29 hi0 hz0 hz1 hz2 (.slice (some ⟨w.heap.size,0,none⟩) 0 0) [] rfl (by simpa using World.ownsRow_lit (base:=w.heap.size) (e:=2) (size:=1) w #[] 0 (by simp) (by simp) rfl) (by simp) (some ⟨b,o,none⟩) n c vs L B rfl hx.out (hv.out.keep ((balloc (Below.refl w.heap.size w) _).mono hB)) (by simp;omega) (by simp) ?_)
 intro v1 w1 ho1 hg1 hn1
 have HB:Hid (Below w.heap.size w w1):=hide (hg1.below (by simpa using World.ownsRow_lit (base:=w.heap.size) (e:=2) (size:=1) w #[] 0 (by simp) (by simp) rfl:(w.alloc (.cells #[] 2)).ownsRow w.heap.size 2 1 (.slice (some ⟨w.heap.size,0,none⟩) 0 0) 0 []) (balloc (Below.refl _ _) _) (by simp))
 have HO:=hide ho1
 have HN:=hide hn1
 clear hg1 ho1 hn1
 refine hK _ _ ?_
 go_wp2
 go_ret
 exact ⟨_,rfl,HB.out,HN.out,HO.out⟩
end Go.Proofs.YtdfdmjcngkfciaaDoor

namespace Go.Proofs.YtdfdmjcngkfciaaDoor
open Go.RowKit
def SameW2 (a b:World):Prop:=a=b
set_option maxHeartbeats 1000000 in
set_option maxRecDepth 100000 in
theorem growNil_any (n:Nat) (w:World) (hn:n≤1000000) :
  Calls Tryd.prog 68 #[.slice none 0 0,.int .i64 n] w fun e w'=>∃v,e=.returned v∧Below w.heap.size w w'∧(0<n→v≠.slice none 0 0)∧w'.ownsRow w.heap.size 2 1 v 0 []:=by
 obtain ⟨i0,hi0,hz0,hz1,hz2⟩:=info_parts Tryd.info2'
 by_cases h0:n=0
 ·subst h0
  go_enter Tryd.func68,Tryd.ntmps68
  go_wp2
  go_ret
  exact ⟨_,rfl,Below.refl _ _,fun h=>absurd h (by omega),World.ownsRow_nil _ _ _ _⟩
 ·have hrz:∀ty,(Builtin.append_ #[29,3] ty #[.slice none 0 0,.int .i64 (n:Int)]).run Tryd.prog w =
    .ok (.slice (some ⟨w.heap.size,0,none⟩) (0+n) (grownCap w (0+n) 0 2)) (w.drew.alloc (.cells (([]:List Value).toArray++Builtin.zeroCells (Value.int .i64 0).cells n++Builtin.zeroCells (Value.int .i64 0).cells (grownCap w (0+n) 0 2 - (0+n))) 2)):=fun ty =>
   Lib.run_append_grow_zeros w 29 3 ty 2 i0 (.int .i64 0) .i64 .i64 Tryd.underlying29 Tryd.underlying3 hi0 hz0 none 0 0 [] (run_firstCells_none w.drew i0.size 0 0 0) n (by omega) (by omega) (by omega) (by omega) (by rw [hz2];omega) (by rw [hz2];exact growslice_fits (by omega) (by omega))
  have hGn:0+n≤grownCap w (0+n) 0 2:=grownCap_ge w _ _ _
  have hGm:=grownCap_le_maxLen w (0+n) 0 2 (by unfold maxLen;omega)
  rw [Nat.zero_add] at hrz hGn hGm
  have HOW:Hid (∀W:World,(W.alloc (.cells (([]:List Value).toArray++Builtin.zeroCells (Value.int .i64 0).cells n++Builtin.zeroCells (Value.int .i64 0).cells (grownCap w n 0 2 - n)) 2)).ownsRow W.heap.size 2 1 (.slice (some ⟨W.heap.size,0,none⟩) 0 (grownCap w n 0 2)) 0 []):=hide (fun W=>World.ownsRow_made W _ _ (Nat.le_refl _) hGm (by simp [size_zeroCells,Value.cells];omega))
  generalize ([]:List Value).toArray++Builtin.zeroCells (Value.int .i64 0).cells n++Builtin.zeroCells (Value.int .i64 0).cells (grownCap w n 0 2 - n)=cells at *
  generalize grownCap w n 0 2=G at *
  unfold maxLen at hGm
  go_enter Tryd.func68,Tryd.ntmps68
  go_wp2_with (at_builtin;refine Lib.wpList_append_run _ rfl _ _ _ _ rfl _ _ rfl rfl _ _ (hrz _) ?_)
  all_goals (go_ret;exact ⟨_,rfl,balloc (Below.refl _ _).drew _,fun _ h=>(by cases h),HOW.out w.drew⟩)
set_option maxHeartbeats 1000000 in
set_option maxRecDepth 100000 in
theorem concat2_any (g n1 c1 n2 c2:Nat) (a1 a2:Option Addr) (xs ys:List Int) (L1 B1 L2 B2:Nat) (w:World) (h1:Hid (IntsAt w L1 B1 a1 xs)) (h2:Hid (IntsAt w L2 B2 a2 ys)) (e1:Hid (n1=xs.length)) (e2:Hid (n2=ys.length)) (hn1:n1≤1000) (hn2:n2≤1000) (hp:0<n1+n2) (hB1:B1≤w.heap.size) (hB2:B2≤w.heap.size) (q0:w.cell? ⟨g,0,none⟩=some (.slice a1 n1 c1)) (q1:w.cell? ⟨g,1,none⟩=some (.slice a2 n2 c2)) :
  Calls Tryd.prog 64 #[.slice (some ⟨g,0,none⟩) 2 2] w fun e w'=>∃v,e=.returned v∧Below w.heap.size w w'∧w'.ownsRow w.heap.size 2 1 v (xs++ys).length ((xs++ys).map (Value.int .i64)):=by
 obtain ⟨i0,hi0,hz0,hz1,hz2⟩:=info_parts Tryd.info2'
 have HGR:=hide (growNil_any (n1+n2) w (by omega))
 go_enter Tryd.func64,Tryd.ntmps64
 go_wp2_with fail
 go_loopw [3,11] (fun s u wr=>SameW2 wr w∧((s=.int .i64 0∧u=.int .i64 0)∨(s=.int .i64 n1∧u=.int .i64 1)∨(s=.int .i64 ((n1+n2:Nat):Int)∧u=.int .i64 2))) (fun _ u _=>2-(intOf u).toNat)
 case atStart=>exact ⟨rfl,Or.inl ⟨rfl,rfl⟩⟩
 case round =>
  obtain ⟨hW,hst⟩:=hrel
  unfold SameW2 at hW
  have hW':=hW.symm
  subst hW'
  clear hW
  rcases hst with ⟨rfl,rfl⟩ | ⟨rfl,rfl⟩ | ⟨rfl,rfl⟩
  ·go_wp2_with fail
   exact ⟨⟨rfl,Or.inr (Or.inl ⟨rfl,rfl⟩)⟩,by simp [intOf]⟩
  ·go_wp2_with fail
   exact ⟨⟨rfl,Or.inr (Or.inr ⟨by go_num,rfl⟩)⟩,by simp [intOf]⟩
  ·go_wp2_with fail
   refine HGR.out.mono ?_
   rintro e w1 ⟨v,rfl,hb,hne,ho⟩
   have HB:=hide hb
   have HO:=hide ho
   have HNE:=hide (hne hp)
   have hgl:g<w.heap.size:=World.block_lt_of_cell? _ _ q0
   clear hb ho hne
   go_wp2_with fail
   go_loopw [6,27] (fun v u wq=>Hid (Below w.heap.size w wq)∧Hid (v≠.slice none 0 0)∧((u=.int .i64 0∧Hid (wq.ownsRow w.heap.size 2 1 v ([]:List Int).length (([]:List Int).map (Value.int .i64))))∨(u=.int .i64 1∧Hid (wq.ownsRow w.heap.size 2 1 v xs.length (xs.map (Value.int .i64))))∨(u=.int .i64 2∧Hid (wq.ownsRow w.heap.size 2 1 v (xs++ys).length ((xs++ys).map (Value.int .i64)))))) (fun _ u _=>2-(intOf u).toNat)
   case atStart=>exact ⟨HB,HNE,Or.inl ⟨rfl,HO⟩⟩
   case round =>
    obtain ⟨HBq,HNq,hst⟩:=hrel
    have qq0:=(HBq.out.cell (p:=⟨g,0,none⟩) hgl).trans q0
    have qq1:=(HBq.out.cell (p:=⟨g,1,none⟩) hgl).trans q1
    have hzq:=HBq.out.size
    have hx1:xs.length≤1000:=by have:=e1.out;omega
    have hy1:ys.length≤1000:=by have:=e2.out;omega
    rcases hst with ⟨rfl,HOq⟩ | ⟨rfl,HOq⟩ | ⟨rfl,HOq⟩
    ·have HI1:=hide (h1.out.keep (HBq.out.mono hB1))
     go_wp2_with (at_builtin;refine wpList_plain rfl fun K hK=>wp_append_ints _ _ 29 rfl w.heap.size 2 i0 Tryd.underlying29 hi0 hz0 hz1 hz2 _ [] rfl HOq.out HNq.out a1 n1 c1 xs L1 B1 rfl e1.out HI1.out (by simp;omega) (by omega) ?_)
     intro v2 w2 ho2 hg2 hn2'
     have HB2:=hide (hg2.below HOq.out HBq.out (by omega))
     have HO2:=hide ho2
     have HN2:=hide hn2'
     clear ho2 hg2 hn2'
     refine hK _ _ ?_
     go_wp2_with fail
     exact ⟨⟨HB2,HN2,Or.inr (Or.inl ⟨rfl,HO2⟩)⟩,by simp [intOf]⟩
    ·have HI2:=hide (h2.out.keep (HBq.out.mono hB2))
     go_wp2_with (at_builtin;refine wpList_plain rfl fun K hK=>wp_append_ints _ _ 29 rfl w.heap.size 2 i0 Tryd.underlying29 hi0 hz0 hz1 hz2 _ xs rfl HOq.out HNq.out a2 n2 c2 ys L2 B2 rfl e2.out HI2.out (by omega) (by omega) ?_)
     intro v2 w2 ho2 hg2 hn2'
     have HB2:=hide (hg2.below HOq.out HBq.out (by omega))
     have HO2:=hide ho2
     have HN2:=hide hn2'
     clear ho2 hg2 hn2'
     refine hK _ _ ?_
     go_wp2_with fail
     exact ⟨⟨HB2,HN2,Or.inr (Or.inr ⟨rfl,hide (by rw [List.length_append,List.map_append];exact HO2.out)⟩)⟩,by simp [intOf]⟩
    ·go_wp2_with fail
     go_ret
     exact ⟨_,rfl,HBq.out,HOq.out⟩
end Go.Proofs.YtdfdmjcngkfciaaDoor
