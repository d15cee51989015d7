import Derived.Test.YtbofmlmdgkblkaaDoorE2
import Derived.Laws.OwnMore
import Derived.Lib.AppendZerosOnto
import Derived.Lib.Walk
import Derived.Lib.SliceRun
import Derived.Deep.LoopGhost
import Derived.WalkMore
namespace Go.Proofs.YtbofmlmdgkblkaaDoor
open Go.RowKit
def WT(op:Int):List UInt8 :=
 if op=1 then [99,111,110,115,116]else if op=2 then [97,114,103]else if op=3 then [97,100,100]else if op=4 then [115,117,98]else if op=5 then [109,117,108]
 else if op=6 then [100,105,118]else if op=7 then [108,101,115,115]else if op=8 then [108,111,97,100]else if op=9 then [115,116,111,114,101]else if op=11 then [109,111,118,101]else if op=12 then [112,117,116]else if op=13 then [103,101,116]else [111,117,116]
theorem Zcl(l:List Int)(v:Int):(l++[v]).map (Value.int .i64)=l.map (Value.int .i64)++[Value.int .i64 v]:=by simp
end Go.Proofs.YtbofmlmdgkblkaaDoor
namespace Go.Proofs.YtbofmlmdgkblkaaDoor
set_option maxHeartbeats 2000000
open Go.RowKit
theorem UB(ps:List Ph)(p:Ph):Xu (ps++[p])=Xu ps++[p.dst]:=by simp[Xu]
theorem TS(ps:List XS)(p:XS):Xw (ps++[p])=Xw ps++(if dB p.op then [p.dst]else []):=by
 simp only[Xw,List.filter_append,List.map_append];congr 1;cases h:dB p.op<;>simp[h]
theorem Ta(ps:List Xg)(p:Xg):blksDefs (ps++[p])=blksDefs ps++KF p:=by simp[blksDefs]
theorem Kz(xs:List XS):(Xw xs).length<=xs.length:=by simp only[Xw,List.length_map];exact List.length_filter_le _ _
theorem JY(xs:List Xg):(blksDefs xs).length<=X7 xs:=by
 induction xs with
 | nil=>simp[blksDefs]
 | cons x xs ih =>
  have h1:blksDefs (x::xs)=KF x++blksDefs xs:=by simp[blksDefs]
  have h2:X7 (x::xs)=ZH x+X7 xs:=by simp[X7]
  have h3:(KF x).length<=ZH x:=by
   simp only[KF,Xu,List.length_append,List.length_map,ZH];have:=Kz x.instrs;omega
  rw[h1,h2,List.length_append];omega
theorem Zb3{w wr w1:World}{u:Value}{n:Nat}{xs:List Value}{a:Option Addr}{N c:Nat}(hw:Below w.heap.size w wr)(hsz:w.heap.size<wr.heap.size)(hcell:wr.cell? ⟨w.heap.size,1,none⟩=some (.slice a N c))
 (o:Obj) (hown:wr.ownsRow (w.heap.size+1) 2 1 u n xs) (hg:(wr.alloc o).grownBy w1 u.ownBlock) :
 Below w.heap.size w w1/\w.heap.size<w1.heap.size/\w1.cell? ⟨w.heap.size,1,none⟩=some (.slice a N c)/\wr.heap.size<=w1.heap.size:=by
 have hz:=hg.size;simp at hz;refine⟨XG (Xb hw _) hg (hown.alloc _) (by omega) (by simp;omega),by omega,?_,by omega⟩;exact(Xc (Zq hg (hown.alloc _) (b:=w.heap.size) (by omega) (by simp;omega))).trans (((Xb (Below.refl wr.heap.size wr) _).cell (p:=⟨w.heap.size,1,none⟩) hsz).trans hcell)
theorem Zc4(v:Int)(a:Option Addr)(n c:Nat)(xs:List Xg)(L B:Nat)(w:World)(ha:Hid (Xy w L B a xs))(hx:Hid (n=xs.length))(hn:n<=1048576)(hs:Hid (X7 xs<=1048576))(hB:B<=w.heap.size) :
 Calls Tryd.prog 20 #[.agg #[.int .i64 v,.slice a n c]] w fun e w'=>∃a' c',e=.returned (.slice a' (blksDefs xs).length c')/\Below w.heap.size w w'/\Xe w' w.heap.size w'.heap.size a' (blksDefs xs):=by
 obtain⟨i0,hi0,hz0,hz1,hz2⟩:=info_parts Tryd.info2'
 go_enter Tryd.func20,Tryd.ntmps20
 go_wp2
 go_loopw [3,4] (fun u i wr=>∃k:Nat,k<=n/\i=.int .i64 k/\Below w.heap.size w wr/\w.heap.size<wr.heap.size/\wr.cell? ⟨w.heap.size,1,none⟩=some (.slice a n c)/\wr.ownsRow (w.heap.size+1) 2 1 u (blksDefs (xs.take k)).length ((blksDefs (xs.take k)).map (Value.int .i64))) (fun _ i _=>n-(intOf i).toNat)
 case atStart=>exact⟨0,Nat.zero_le _,rfl,Xb (Xb (Below.refl _ _) _) _,by simp;omega,by simp,WQ _ _⟩
 case round =>
  obtain⟨k,hk,rfl,hw,hsz,hcell,hown⟩:=hrel;by_cases hlt:k<n
  ·have hkx:k<xs.length:=by have:=hx.out;omega
   obtain⟨b,o,rfl,⟨_,hbB⟩,hc⟩:=ha.out k hkx;have HC:=Xa hc;have hnx:Hid (blksDefs (xs.take (k+1))=blksDefs (xs.take k)++(Xu xs[k].phis++Xw xs[k].instrs)):=by
    show _=_;rw[XF _ _ hkx,Ta];rfl
   have hbd:(blksDefs (xs.take k)).length+(xs[k].phis.length+Jr xs[k].phis+xs[k].instrs.length)<=1048576:=by
    have h1:=TH xs (k+1);rw[XF _ _ hkx,Uf]at h1;have h2:=JY (xs.take k);have h3:=hs.out;have h4:ZH xs[k]=xs[k].phis.length+Jr xs[k].phis+xs[k].instrs.length:=rfl;omega
   have hpl:xs[k].phis.length<=1048576:=by omega
   have hil:xs[k].instrs.length<=1048576:=by omega
   have HO:=Xa hown;clear hown hc;generalize hX:xs[k]=X at *;clear hX;generalize blksDefs (xs.take k)=D at *;obtain⟨pa,pc,ia,ic,e0,e1,_,hp,hi⟩:=HC.out;have HP:=Xa hp;have HI:=Xa hi;have E0:=Xa e0;have E1:=Xa e1;clear e0 e1 hp hi HC;go_wp2
   go_loopw [3,5] (fun u i wi=>∃j:Nat,j<=X.phis.length/\i=.int .i64 j/\Below w.heap.size w wi/\w.heap.size<wi.heap.size/\wi.cell? ⟨w.heap.size,1,none⟩=some (.slice (some ⟨b,o,none⟩) n c)/\wi.ownsRow (w.heap.size+1) 2 1 u (D++Xu (X.phis.take j)).length ((D++Xu (X.phis.take j)).map (Value.int .i64))) (fun _ i _=>X.phis.length-(intOf i).toNat)
   case atStart=>exact⟨0,Nat.zero_le _,rfl,hw,hsz,hcell,by simpa [Xu]using HO.out⟩
   case round =>
    obtain⟨j,hj,rfl,hwi,hszi,hcelli,howni⟩:=hrel;have f0:=(Yn hwi (by omega)).trans E0.out;have f1:=(Yn hwi (by omega)).trans E1.out;by_cases hjt:j<X.phis.length
    ·obtain⟨b',o',rfl,⟨_,hbB'⟩,aa,cc,g0,g1,_⟩:=HP.out j hjt
     have e2:=(Yn hwi (by omega)).trans g0;have h3:Hid (D++Xu (X.phis.take (j+1))=(D++Xu (X.phis.take j))++[X.phis[j].dst]):=by show _=_;rw[XF _ _ hjt,UB,List.append_assoc]
     have hl:(D++Xu (X.phis.take j)).length<=1048576:=by simp[Xu];omega
     clear g0 g1;generalize X.phis[j]=P at *;generalize D++Xu (X.phis.take j)=D1 at *;have HOi:=Xa howni;clear howni f1
     go_wp2_with (at_builtin;refine wpList_append_own _ rfl _ _ 40 rfl (w.heap.size+1) 2 i0 (.int .i64 0) 1 8 Tryd.underlying40 hi0 hz0 hz1 hz2 rfl (by decide) _ _ _ rfl (HOi.alloc _) ⟨wr.heap.size,0,none⟩ 1 1 [.int .i64 P.dst] rfl rfl ?c1 ?c2 ?c3 ?c4 ?c5 ?_)
     case c1 =>
      intro j u hj
      match j,hj with
      | 0,hj=>simp at hj;subst hj;simp[Addr.add]
     case c2=>intro u hu;simp at hu;subst hu;rfl
     case c3=>unfold maxLen;omega
     case c4=>omega
     case c5=>simp;omega
     intro v1 w1 hown1 hgrow1 _;have HO1:=Xa hown1;clear hown1;go_wp2;obtain⟨q1,q2,q3,_⟩:=Zb3 hwi hszi hcelli _ HOi.out hgrow1;exact⟨⟨j+1,by omega,by go_num,q1,q2,q3,by rw[h3.out,YO];simpa using HO1.out⟩,by simp[intOf];omega⟩
    ·have hE:=Xa (List.take_of_length_le (l:=X.phis) (i:=j) (by omega))
     have HOi:=Xa howni;clear howni;go_wp2
     go_loopw [3,6] (fun u i wi=>∃j:Nat,j<=X.instrs.length/\i=.int .i64 j/\Below w.heap.size w wi/\w.heap.size<wi.heap.size/\wi.cell? ⟨w.heap.size,1,none⟩=some (.slice (some ⟨b,o,none⟩) n c)/\wi.ownsRow (w.heap.size+1) 2 1 u (D++Xu X.phis++Xw (X.instrs.take j)).length ((D++Xu X.phis++Xw (X.instrs.take j)).map (Value.int .i64))) (fun _ i _=>X.instrs.length-(intOf i).toNat)
     case atStart=>exact⟨0,Nat.zero_le _,rfl,hwi,hszi,hcelli,by have:=HOi.out;rw[hE.out]at this;simpa [Xw]using this⟩
     case round =>
      clear hwi hszi hcelli f0 f1 HOi hE;obtain⟨j,hj,rfl,hwi,hszi,hcelli,howni⟩:=hrel;have f1:=(Yn hwi (by omega)).trans E1.out;by_cases hjt:j<X.instrs.length
      ·obtain⟨b',o',rfl,⟨_,hbB'⟩,g0,g1,_,_,_⟩:=HI.out j hjt
       have e2:=(Yn hwi (by omega)).trans g0;have e3:=(Yn hwi (by omega)).trans g1;have h3:Hid (D++Xu X.phis++Xw (X.instrs.take (j+1))=(D++Xu X.phis++Xw (X.instrs.take j))++(if dB X.instrs[j].op then [X.instrs[j].dst]else [])):=by show _=_;rw[XF _ _ hjt,TS,<-List.append_assoc]
       have hl:(D++Xu X.phis++Xw (X.instrs.take j)).length<=1048576:=by have:=Kz (X.instrs.take j);simp[Xu]at this |-;omega
       clear g0 g1;generalize X.instrs[j]=P at *;generalize D++Xu X.phis++Xw (X.instrs.take j)=D1 at *;have HOi:=Xa howni;clear howni;cases hd:dB P.op
       ·have HD:=Xa hd
        go_wp2_with (go_at_call 50;refine(ZaN _ _).mono ?_;rintro e w2 ⟨rfl,hw2⟩;rw[hw2];clear hw2 w2)
        exact⟨⟨j+1,by omega,by go_num,hwi,hszi,hcelli,by rw[h3.out,HD.out];simpa using HOi.out⟩,by simp[intOf];omega⟩
       ·have HD:=Xa hd
        go_wp2_with (first | (go_at_call 50;refine(ZaN _ _).mono ?_;rintro e w2 ⟨rfl,hw2⟩;rw[hw2];clear hw2 w2) | (at_builtin;refine wpList_append_own _ rfl _ _ 40 rfl (w.heap.size+1) 2 i0 (.int .i64 0) 1 8 Tryd.underlying40 hi0 hz0 hz1 hz2 rfl (by decide) _ _ _ rfl (HOi.alloc _) ⟨wr.heap.size,0,none⟩ 1 1 [.int .i64 P.dst] rfl rfl ?c1 ?c2 ?c3 ?c4 ?c5 ?_))
        case c1 =>
         intro j u hj
         match j,hj with
         | 0,hj=>simp at hj;subst hj;simp[Addr.add]
        case c2=>intro u hu;simp at hu;subst hu;rfl
        case c3=>unfold maxLen;omega
        case c4=>omega
        case c5=>simp;omega
        intro v1 w1 hown1 hgrow1 _;have HO1:=Xa hown1;clear hown1;go_wp2;obtain⟨q1,q2,q3,_⟩:=Zb3 hwi hszi hcelli _ HOi.out hgrow1;exact⟨⟨j+1,by omega,by go_num,q1,q2,q3,by rw[h3.out,HD.out,if_pos rfl,YO];simpa using HO1.out⟩,by simp[intOf];omega⟩
      ·have hE:=Xa (List.take_of_length_le (l:=X.instrs) (i:=j) (by omega))
       have HOi:=Xa howni;clear howni;go_wp2;exact⟨⟨k+1,by omega,by go_num,hwi,hszi,hcelli,by have:=HOi.out;rw[hE.out]at this;rw[hnx.out,<-List.append_assoc];exact this⟩,by simp[intOf];omega⟩
  ·go_wp2
   go_ret
   have e:=List.take_of_length_le (l:=xs) (i:=k) (by have:=hx.out;omega);rw[e]at hown;obtain⟨a1,c1,rfl,hi1⟩:=Xn hown;exact⟨_,_,rfl,hw,hi1.mono (by omega) (Nat.le_refl _)⟩
end Go.Proofs.YtbofmlmdgkblkaaDoor
namespace Go.Proofs.YtbofmlmdgkblkaaDoor
open Go.RowKit
theorem KY{P:Program}{w:World}(base:Nat)(t ty e:TypeId)(i:TypeInfo)(size:Nat)(ht:P.underlying t=some (.slice e))(hi:P.info? e=some i)
 (v:Value) (n c:Nat) (xs:List Value) (hown:w.ownsRow base e size v n xs) :
 (Builtin.append_ #[t,t] ty #[v,.slice none 0 c]).run P w=.ok v w:=by
 rcases hown.2 with⟨rfl,rfl⟩ | ⟨g,cap,cur,rfl,_,_,hnc,_⟩
 ·simp[Builtin.append_,run_underlying ht,sizeOf,typeInfo,hi,Builtin.lenOf,Builtin.firstCells]
 ·simp[Builtin.append_,run_underlying ht,sizeOf,typeInfo,hi,Builtin.lenOf,Builtin.firstCells,hnc,storeCells]
theorem ZdA{w:World}{L B:Nat}{ad:Addr}{qs:List Int}(hv:Xe w L B (some ad) qs):∀j u,(qs.map (Value.int .i64))[j]?=some u->w.cell? (ad.add j)=some u:=by
 intro j u hj;have hl:j<qs.length:=by
  rcases Nat.lt_or_ge j qs.length with h | h
  ·exact h
  ·rw[List.getElem?_eq_none (by simpa using h)]at hj;cases hj
 obtain⟨b,o,e,-,hc⟩:=hv j hl;cases e;rw[List.getElem?_map,List.getElem?_eq_getElem hl]at hj;cases hj;rw[Addr.add_lit];exact hc
theorem Jh{P:Program}{w:World}{o:Oper}{a:Act}{K:Act->World->Prop}{Q:Exit->Act->World->Prop}(s x:Operand)(t:TypeId)
 (ho:o.op=.call { callee:=.builtin .append,args:=#[s,x],argTypes:=#[t,t] })
 (base:Nat) (e:TypeId) (i:TypeInfo) (ht:P.underlying t=some (.slice e)) (hi:P.info? e=some i) (hz:i.zero=some (.int .i64 0))
 (hsize:i.size=1) (hby:i.bytes=8)
 (v:Value) (xs:List Int) (hs:a.eval s=v) (hown:w.ownsRow base e 1 v xs.length (xs.map (Value.int .i64))) (hn:v≠.slice none 0 0)
 (ad:Option Addr) (m c:Nat) (qs:List Int) (L B:Nat) (hx:a.eval x=.slice ad m c) (hm:m=qs.length) (hv:Xe w L B ad qs)
 (hbytes:xs.length+m<=1000000000000) (hbase:base<=w.heap.size)
 (h:∀v' w',w'.ownsRow base e 1 v' (xs++qs).length ((xs++qs).map (Value.int .i64))->Gr w w' v v'->v'≠.slice none 0 0->K (a.put o.dst v') w') :
 o.wp P a w K Q:=by
 cases ad with
 | none =>
  have has:qs=[]:=by
   cases qs with
   | nil=>rfl
   | cons x r=>obtain⟨_,_,e,_⟩:=hv 0 (by simp);cases e
  subst has;subst hm;have hrun:=KY (P:=P) (w:=w) base t o.type e i 1 ht hi v xs.length c _ hown;unfold Oper.wp execOp;simp only[ho,resolve,invoke,builtin,Sem.run_bind,Sem.run_pure,Result.andThen_ok,List.map_toArray,List.map_cons,List.map_nil,hs,hx,List.length_nil,hrun];exact h v w (by simpa using hown) (Gr.refl _ _) hn
 | some ad =>
  obtain⟨v',w',hr,h1,h2,h3,h4⟩:=run_append_own_at (P:=P) w base t o.type e i (.int .i64 0) 1 8 ht hi hz hsize hby rfl (by decide) v xs.length _ hown ad m c (qs.map (Value.int .i64)) (by simp[hm]) (ZdA hv) (by intro u hu;obtain⟨z,-,rfl⟩:=List.mem_map.1 hu;rfl) (by unfold maxLen;omega) (by omega) hbase;unfold Oper.wp execOp;simp only[ho,resolve,invoke,builtin,Sem.run_bind,Sem.run_pure,Result.andThen_ok,List.map_toArray,List.map_cons,List.map_nil,hs,hx,hr];refine h v' w' (by rw[List.length_append,List.map_append,<-hm];exact h1) ⟨h2,fun g hg=>?_⟩ (fun e=>hn (h3.1 e).1);rcases h4 with h4 | h4
  ·exact Or.inr (h4 ▸ hg)
  ·rw[h4]at hg;cases hg;exact Or.inl (Nat.le_refl _)
end Go.Proofs.YtbofmlmdgkblkaaDoor
namespace Go.Proofs.YtbofmlmdgkblkaaDoor
set_option maxHeartbeats 1000000
set_option maxRecDepth 100000
open Go.RowKit
def Zb0(L xs:List Int)(i:Nat):Prop:=xs.length=L.length/\∀k (h:k<L.length),xs[k]?=some (if k<i\/L.length<=k+i then L[L.length-1-k]else L[k])
theorem Zey(L:List Int):Zb0 L L 0:=⟨rfl,fun k h=>by rw[if_neg (by omega),List.getElem?_eq_getElem h]⟩
theorem Ze6{L xs:List Int}{i:Nat}(h:Zb0 L xs i)(hi:L.length<=2*i+1):xs=L.reverse:=by
 refine List.ext_getElem? (fun k=>?_);by_cases hk:k<L.length
 ·rw[h.2 k hk,List.getElem?_reverse hk,List.getElem?_eq_getElem (by omega)]
  split
  ·rfl
  ·have e:L.length-1-k=k:=by omega
   simp only[e]
 ·rw[List.getElem?_eq_none (by rw[h.1];omega),List.getElem?_eq_none (by rw[List.length_reverse];omega)]
theorem ZfI{L xs:List Int}{i:Nat}(h:Zb0 L xs i)(hi:2*i+1<L.length)(h1:i<xs.length)(h2:L.length-1-i<xs.length):Zb0 L ((xs.set i xs[L.length-1-i]).set (L.length-1-i) xs[i]) (i+1):=by
 refine⟨by rw[List.length_set,List.length_set];exact h.1,fun k hk=>?_⟩;have e1:=h.2 i (by omega);have e2:=h.2 (L.length-1-i) (by omega);rw[List.getElem?_eq_getElem h1,if_neg (by omega)]at e1;rw[List.getElem?_eq_getElem h2,if_neg (by omega)]at e2;injection e1 with e1;injection e2 with e2;rw[List.getElem?_set,List.length_set];by_cases c1:L.length-1-i=k
 ·subst c1
  rw[if_pos rfl,if_pos h2,if_pos (by omega),e1];have e:L.length-1-(L.length-1-i)=i:=by omega
  simp only[e]
 ·rw[if_neg c1,List.getElem?_set]
  by_cases c2:i=k
  ·subst c2
   rw[if_pos rfl,if_pos h1,if_pos (by omega),e2]
  ·rw[if_neg c2,h.2 k hk]
   by_cases c3:k<i\/L.length<=k+i
   ·rw[if_pos c3,if_pos (by omega)]
   ·rw[if_neg c3,if_neg (by omega)]
theorem Zb9(g n c B:Nat)(L:List Int)(w:World)(hn:n<=1000000)(hx:Hid (n=L.length))(ho:Hid (w.ownsRow B 2 1 (.slice (some ⟨g,0,none⟩) n c) n (L.map (Value.int .i64)))) :
 Calls Tryd.prog 73 #[.slice (some ⟨g,0,none⟩) n c] w fun e w'=>e=.returned (.tuple #[])/\w.grownBy w' (some g)/\w'.ownsRow B 2 1 (.slice (some ⟨g,0,none⟩) n c) n (L.reverse.map (Value.int .i64)):=by
 go_enter Tryd.func73,Tryd.ntmps73
 go_wp2
 go_loopw [2,3] (fun u v wr=>∃(i:Nat)(xs:List Int),u=.int .i64 i/\v=.int .i64 ((n:Int)-1-i)/\2*i<=n/\Hid (Zb0 L xs i)/\Hid (w.grownBy wr (some g))/\Hid (wr.ownsRow B 2 1 (.slice (some ⟨g,0,none⟩) n c) n (xs.map (Value.int .i64)))) (fun u _ _=>n-(intOf u).toNat)
 case atStart=>exact⟨0,L,rfl,by go_num,by omega,Xa (Zey L),Xa ⟨rfl,rfl,rfl,Nat.le_refl _,fun _ _ _=>rfl⟩,ho⟩
 case round =>
  obtain⟨i,xs,rfl,rfl,hi,HR,HG,HO⟩:=hrel;by_cases hlt:2*i+1<n
  ·have hl:=hx.out
   have hl2:=HR.1;obtain⟨j,hj⟩:∃j:Nat,(n:Int)-1-i=j:=⟨n-1-i,by omega⟩;have hjn:j=L.length-1-i:=by omega
   have h1:i<xs.length:=by omega
   have h2:L.length-1-i<xs.length:=by omega
   have h2':j<xs.length:=by omega
   have HRS:=Xa (ZfI HR.out (by omega) h1 h2);have e1:=Zx HO.out (j:=i) (u:=.int .i64 xs[i]) (by simp[h1]);have e2:=Zx HO.out (j:=j) (u:=.int .i64 xs[j]) (by simp[h2']);have hz:=Zf0 HO.out;have HJ:Hid (xs[L.length-1-i]=xs[j]):=Xa (by simp only[hjn]);rw[HJ.out,<-hjn]at HRS;have hij:i<j:=by omega
   have hjn2:j<n:=by omega
   have hin:i<n:=by omega
   have hj1:(j:Int)-1=(n:Int)-1-(i+1:Nat):=by omega
   have HJ1:=Xa hj1;have hc2:∀v,(wr.setCell ⟨g,i,none⟩ v).cell? ⟨g,j,none⟩=some (.int .i64 xs[j]):=fun v=>(XC _ _ (by omega) _).trans e2
   clear hl hl2 hjn hj1 HJ;rw[hj];generalize xs[i]=vi at *;generalize xs[j]=vj at *;go_wp2
   go_region
   go_wp2;have kk:wr.grownBy ((wr.setCell ⟨g,i,none⟩ (.int .i64 vj)).setCell ⟨g,j,none⟩ (.int .i64 vi)).drew (some g):=⟨rfl,rfl,rfl,by simp[World.setCell,World.drew],fun k _ hk=>(Below.heap_setCell _ _ _ _ (fun e=>hk (by rw[e]))).trans (Below.heap_setCell _ _ _ _ (fun e=>hk (by rw[e])))⟩;refine⟨⟨i+1,_,by go_num,by rw[HJ1.out],by omega,HRS,Xa (HG.andThen kk (fun j hj=>by cases hj;exact Or.inr rfl)),Xa ?_⟩,by simp[intOf];omega⟩;rw[List.map_set,List.map_set];exact Zai (Zai HO.out _) _
  ·have HE:Hid (xs=L.reverse):=Xa (Ze6 HR.out (by have:=hx.out;omega))
   go_wp2
   go_end0
   exact⟨rfl,HG.out,by rw[<-HE.out];exact HO.out⟩
theorem Zcw(b o n c:Nat)(vs:List Int)(L B:Nat)(w:World)(hv:Hid (Xe w L B (some ⟨b,o,none⟩) vs))(hx:Hid (n=vs.length))(hn:n<=1000000000)(hB:B<=w.heap.size) :
 Calls Tryd.prog 72 #[.slice (some ⟨b,o,none⟩) n c] w fun e w'=>∃v,e=.returned v/\Below w.heap.size w w'/\v≠.slice none 0 0/\w'.ownsRow w.heap.size 2 1 v vs.length (vs.map (Value.int .i64)):=by
 obtain⟨i0,hi0,hz0,hz1,hz2⟩:=info_parts Tryd.info2';have q22:∀(w:World)(a:Option Addr)(n c n' c':Nat),(binOp .eql 40 (.slice a n c) (.slice none n' c')).run Tryd.prog w=.ok (.bool a.isNone) w:=fun w a n c n' c'=>Lib.run_eql_slice_nil w _ _ a n c n' c' Tryd.underlying40
 go_enter Tryd.func72,Tryd.ntmps72
 go_wp2_with (at_builtin;refine wpList_plain rfl fun K hK=>Jh _ _ 40 rfl w.heap.size 2 i0 Tryd.underlying40 hi0 hz0 hz1 hz2 (.slice (some ⟨w.heap.size,0,none⟩) 0 0) [] rfl (by simpa using World.ownsRow_lit (base:=w.heap.size) (e:=2) (size:=1) w #[] 0 (by simp) (by simp) rfl) (by simp) (some ⟨b,o,none⟩) n c vs L B rfl hx.out (hv.keep ((Xb (Below.refl w.heap.size w) _).mono hB)) (by simp;omega) (by simp) ?_)
 intro v1 w1 ho1 hg1 hn1;have HB:Hid (Below w.heap.size w w1):=Xa (hg1.below (by simpa using World.ownsRow_lit (base:=w.heap.size) (e:=2) (size:=1) w #[] 0 (by simp) (by simp) rfl:(w.alloc (.cells #[] 2)).ownsRow w.heap.size 2 1 (.slice (some ⟨w.heap.size,0,none⟩) 0 0) 0 []) (Xb (Below.refl _ _) _) (by simp));have HO:=Xa ho1;have HN:=Xa hn1;clear hg1 ho1 hn1;refine hK _ _ ?_;go_wp2
 go_ret
 exact⟨_,rfl,HB.out,HN.out,HO.out⟩
def ZfE(a b:World):Prop:=a=b
theorem Zby(n:Nat)(w:World)(hn:n<=1000000) :
 Calls Tryd.prog 86 #[.slice none 0 0,.int .i64 n] w fun e w'=>∃v,e=.returned v/\Below w.heap.size w w'/\(0<n->v≠.slice none 0 0)/\w'.ownsRow w.heap.size 2 1 v 0 []:=by
 obtain⟨i0,hi0,hz0,hz1,hz2⟩:=info_parts Tryd.info2';by_cases h0:n=0
 ·subst h0
  go_enter Tryd.func86,Tryd.ntmps86
  go_wp2
  go_ret
  exact⟨_,rfl,Below.refl _ _,fun h=>absurd h (by omega),World.ownsRow_nil _ _ _ _⟩
 ·have hrz:∀ty,(Builtin.append_ #[40,3] ty #[.slice none 0 0,.int .i64 (n:Int)]).run Tryd.prog w =
   .ok (.slice (some ⟨w.heap.size,0,none⟩) (0+n) (grownCap w (0+n) 0 2)) (w.drew.alloc (.cells (([]:List Value).toArray++Builtin.zeroCells (Value.int .i64 0).cells n++Builtin.zeroCells (Value.int .i64 0).cells (grownCap w (0+n) 0 2 - (0+n))) 2)):=fun ty =>
   Lib.run_append_grow_zeros w 40 3 ty 2 i0 (.int .i64 0) .i64 .i64 Tryd.underlying40 Tryd.underlying3 hi0 hz0 none 0 0 [] (run_firstCells_none w.drew i0.size 0 0 0) n (by omega) (by omega) (by omega) (by omega) (by rw[hz2];omega) (by rw[hz2];exact growslice_fits (by omega) (by omega))
  have hGn:0+n<=grownCap w (0+n) 0 2:=grownCap_ge w _ _ _;have hGm:=grownCap_le_maxLen w (0+n) 0 2 (by unfold maxLen;omega);rw[Nat.zero_add]at hrz hGn hGm;have HOW:Hid (∀W:World,(W.alloc (.cells (([]:List Value).toArray++Builtin.zeroCells (Value.int .i64 0).cells n++Builtin.zeroCells (Value.int .i64 0).cells (grownCap w n 0 2 - n)) 2)).ownsRow W.heap.size 2 1 (.slice (some ⟨W.heap.size,0,none⟩) 0 (grownCap w n 0 2)) 0 []):=Xa (fun W=>World.ownsRow_made W _ _ (Nat.le_refl _) hGm (by simp[size_zeroCells,Value.cells];omega));generalize ([]:List Value).toArray++Builtin.zeroCells (Value.int .i64 0).cells n++Builtin.zeroCells (Value.int .i64 0).cells (grownCap w n 0 2 - n)=cells at *;generalize grownCap w n 0 2=G at *;unfold maxLen at hGm
  go_enter Tryd.func86,Tryd.ntmps86
  go_wp2_with (at_builtin;refine Lib.wpList_append_run _ rfl _ _ _ _ rfl _ _ rfl rfl _ _ (hrz _) ?_)
  all_goals (go_ret;exact⟨_,rfl,Xb (Below.refl _ _).drew _,fun _ h=>(by cases h),HOW.out w.drew⟩)
theorem Zbg(g n1 c1 n2 c2:Nat)(a1 a2:Option Addr)(xs ys:List Int)(L1 B1 L2 B2:Nat)(w:World)(h1:Hid (Xe w L1 B1 a1 xs))(h2:Hid (Xe w L2 B2 a2 ys))(e1:Hid (n1=xs.length))(e2:Hid (n2=ys.length))(hn1:n1<=1000)(hn2:n2<=1000)(hp:0<n1+n2)(hB1:B1<=w.heap.size)(hB2:B2<=w.heap.size)(q0:w.cell? ⟨g,0,none⟩=some (.slice a1 n1 c1))(q1:w.cell? ⟨g,1,none⟩=some (.slice a2 n2 c2)) :
 Calls Tryd.prog 74 #[.slice (some ⟨g,0,none⟩) 2 2] w fun e w'=>∃v,e=.returned v/\Below w.heap.size w w'/\w'.ownsRow w.heap.size 2 1 v (xs++ys).length ((xs++ys).map (Value.int .i64)):=by
 obtain⟨i0,hi0,hz0,hz1,hz2⟩:=info_parts Tryd.info2';have HGR:=Xa (Zby (n1+n2) w (by omega))
 go_enter Tryd.func74,Tryd.ntmps74
 go_wp2_with fail
 go_loopw [3,11] (fun s u wr=>ZfE wr w/\((s=.int .i64 0/\u=.int .i64 0)\/(s=.int .i64 n1/\u=.int .i64 1)\/(s=.int .i64 ((n1+n2:Nat):Int)/\u=.int .i64 2))) (fun _ u _=>2-(intOf u).toNat)
 case atStart=>exact⟨rfl,Or.inl ⟨rfl,rfl⟩⟩
 case round =>
  obtain⟨hW,hst⟩:=hrel;unfold ZfE at hW;have hW':=hW.symm;subst hW';clear hW;rcases hst with⟨rfl,rfl⟩ | ⟨rfl,rfl⟩ | ⟨rfl,rfl⟩
  ·go_wp2_with fail
   exact⟨⟨rfl,Or.inr (Or.inl ⟨rfl,rfl⟩)⟩,by simp[intOf]⟩
  ·go_wp2_with fail
   exact⟨⟨rfl,Or.inr (Or.inr ⟨by go_num,rfl⟩)⟩,by simp[intOf]⟩
  ·go_wp2_with fail
   refine HGR.mono ?_;rintro e w1 ⟨v,rfl,hb,hne,ho⟩;have HB:=Xa hb;have HO:=Xa ho;have HNE:=Xa (hne hp);have hgl:g<w.heap.size:=World.block_lt_of_cell? _ _ q0;clear hb ho hne
   go_wp2_with fail
   go_loopw [6,27] (fun v u wq=>Hid (Below w.heap.size w wq)/\Hid (v≠.slice none 0 0)/\((u=.int .i64 0/\Hid (wq.ownsRow w.heap.size 2 1 v ([]:List Int).length (([]:List Int).map (Value.int .i64))))\/(u=.int .i64 1/\Hid (wq.ownsRow w.heap.size 2 1 v xs.length (xs.map (Value.int .i64))))\/(u=.int .i64 2/\Hid (wq.ownsRow w.heap.size 2 1 v (xs++ys).length ((xs++ys).map (Value.int .i64)))))) (fun _ u _=>2-(intOf u).toNat)
   case atStart=>exact⟨HB,HNE,Or.inl ⟨rfl,HO⟩⟩
   case round =>
    obtain⟨HBq,HNq,hst⟩:=hrel;have qq0:=(HBq.cell (p:=⟨g,0,none⟩) hgl).trans q0;have qq1:=(HBq.cell (p:=⟨g,1,none⟩) hgl).trans q1;have hzq:=HBq.size;have hx1:xs.length<=1000:=by have:=e1.out;omega
    have hy1:ys.length<=1000:=by have:=e2.out;omega
    rcases hst with⟨rfl,HOq⟩ | ⟨rfl,HOq⟩ | ⟨rfl,HOq⟩
    ·have HI1:=Xa (h1.keep (HBq.mono hB1))
     go_wp2_with (at_builtin;refine wpList_plain rfl fun K hK=>Jh _ _ 40 rfl w.heap.size 2 i0 Tryd.underlying40 hi0 hz0 hz1 hz2 _ [] rfl HOq.out HNq.out a1 n1 c1 xs L1 B1 rfl e1.out HI1.out (by simp;omega) (by omega) ?_)
     intro v2 w2 ho2 hg2 hn2';have HB2:=Xa (hg2.below HOq.out HBq.out (by omega));have HO2:=Xa ho2;have HN2:=Xa hn2';clear ho2 hg2 hn2';refine hK _ _ ?_
     go_wp2_with fail
     exact⟨⟨HB2,HN2,Or.inr (Or.inl ⟨rfl,HO2⟩)⟩,by simp[intOf]⟩
    ·have HI2:=Xa (h2.keep (HBq.mono hB2))
     go_wp2_with (at_builtin;refine wpList_plain rfl fun K hK=>Jh _ _ 40 rfl w.heap.size 2 i0 Tryd.underlying40 hi0 hz0 hz1 hz2 _ xs rfl HOq.out HNq.out a2 n2 c2 ys L2 B2 rfl e2.out HI2.out (by omega) (by omega) ?_)
     intro v2 w2 ho2 hg2 hn2';have HB2:=Xa (hg2.below HOq.out HBq.out (by omega));have HO2:=Xa ho2;have HN2:=Xa hn2';clear ho2 hg2 hn2';refine hK _ _ ?_
     go_wp2_with fail
     exact⟨⟨HB2,HN2,Or.inr (Or.inr ⟨rfl,Xa (by rw[List.length_append,List.map_append];exact HO2.out)⟩)⟩,by simp[intOf]⟩
    ·go_wp2_with fail
     go_ret
     exact⟨_,rfl,HBq.out,HOq.out⟩
end Go.Proofs.YtbofmlmdgkblkaaDoor
namespace Go.Proofs.YtbofmlmdgkblkaaDoor
open Go.RowKit
structure VX(w w':World)(n:Nat)(gs:Nat->Nat):Prop where
 os:w'.os=w.os
 tape:w'.tape=w.tape
 output:w'.output=w.output
 size:w.heap.size<=w'.heap.size
 block:∀k,k<w.heap.size->(∀i,i<n->k≠gs i)->w'.heap[k]?=w.heap[k]?
theorem VX.refl(w:World)(n:Nat)(gs:Nat->Nat):VX w w n gs:=⟨rfl,rfl,rfl,Nat.le_refl _,fun _ _ _=>rfl⟩
theorem VX.below{w w1 w2:World}{n:Nat}{gs:Nat->Nat}(h:VX w w1 n gs)(k:Below w1.heap.size w1 w2):VX w w2 n gs:=⟨k.os.trans h.os,k.tape.trans h.tape,k.output.trans h.output,Nat.le_trans h.size k.size,fun j h1 h2=>(k.block j (Nat.lt_of_lt_of_le h1 h.size)).trans (h.block j h1 h2)⟩
theorem VX.grown{w w1 w2:World}{n b:Nat}{gs:Nat->Nat}(h:VX w w1 n gs)(k:w1.grownBy w2 (some (gs b)))(hb:b<n):VX w w2 n gs:=⟨k.os.trans h.os,k.tape.trans h.tape,k.output.trans h.output,Nat.le_trans h.size k.size,fun j h1 h2=>(k.block j (Nat.lt_of_lt_of_le h1 h.size) (fun e=>h2 b hb (by injection e))).trans (h.block j h1 h2)⟩
def Xk(l:List Nat):List Int:=l.map Int.ofNat
end Go.Proofs.YtbofmlmdgkblkaaDoor
