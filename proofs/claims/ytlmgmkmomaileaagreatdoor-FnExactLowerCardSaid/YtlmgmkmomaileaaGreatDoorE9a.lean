import Derived.Test.YtlmgmkmomaileaaGreatDoorRunQ
import Derived.Laws.OwnMore
namespace Go.Proofs.YtlmgmkmomaileaaGreatDoor
set_option maxHeartbeats 1000000
set_option maxRecDepth 100000
open Go.RowKit
def ZU(p:Addr):Value:=.pointer (some p)
def XD:List Bool->List Addr->List Addr
 | k::ks,p::ps=>if k then p::XD ks ps else XD ks ps
 | _,_=>[]
theorem Zd7(ks:List Bool)(ps:List Addr)(k:Bool)(p:Addr)(h:ks.length=ps.length):XD (ks++[k]) (ps++[p])=XD ks ps++(if k then [p]else []):=by
 induction ks generalizing ps with
 | nil=>cases ps with
  | nil=>cases k<;>rfl
  | cons q r=>simp at h
 | cons x r ih=>cases ps with
  | nil=>simp at h
  | cons q s=>cases x<;>simp[XD,ih s (by simpa using h)]
theorem Zf9(ks:List Bool)(ps:List Addr):(XD ks ps).length<=ps.length:=by
 induction ks generalizing ps with
 | nil=>simp[XD]
 | cons x r ih=>cases ps with
  | nil=>simp[XD]
  | cons q s=>have:=ih s;cases x<;>simp[XD]<;>omega
theorem Tryz.infoPtr:(Tryz.prog.info? 147).map (fun i=>(i.zero,i.size,i.bytes))=some (some (.pointer none),1,8):=vZ
theorem Zfj(l:List Addr)(v:Addr):(l++[v]).map ZU=l.map ZU++[ZU v]:=sP
theorem Zeg(w:World):(w.alloc (.cells #[] 147)).ownsRow w.heap.size 147 1 (.slice (some ⟨w.heap.size,0,none⟩) 0 0) 0 []:=by
 have:=World.ownsRow_lit (base:=w.heap.size) (e:=147) (size:=1) w #[] 0 sP sP rfl;simpa using this
theorem Jp(ka fa:Option Addr)(kc fc:Nat)(ks:List Bool)(ps:List Addr)(L B:Nat)(w:World)(hB:B<=w.heap.size)(hk:Hid (Yk w L B ka (ks.map Value.bool)))(hp:Hid (Yk w L B fa (ps.map ZU)))(hl:Hid (ks.length=ps.length))(hs:ps.length<=1000) :
 Calls Tryz.prog 77 #[.slice ka ks.length kc,.slice fa ps.length fc] w fun e w'=>∃v,e=.returned v/\Below w.heap.size w w'/\w'.ownsRow w.heap.size 147 1 v (XD ks ps).length ((XD ks ps).map ZU):=by
 obtain⟨i0,hi0,hz0,hz1,hz2⟩:=info_parts Tryz.infoPtr
 go_enter Tryz.func77,Tryz.ntmps77
 go_wp2
 go_loopw [5,11] (fun v i wr=>∃k:Nat,k<=ps.length/\i=.int .i64 k/\Hid (Below w.heap.size w wr)/\Hid (wr.ownsRow w.heap.size 147 1 v (XD (ks.take k) (ps.take k)).length ((XD (ks.take k) (ps.take k)).map ZU))) (fun _ i _=>ps.length-(intOf i).toNat)
 case atStart=>exact⟨0,Nat.zero_le _,rfl,Xa (Xb (Below.refl _ _) _),Xa (by simpa [XD]using Zeg w)⟩
 case round =>
  obtain⟨k,hk',rfl,HB,HO⟩:=hrel;have hwz:=HB.size;by_cases hlt:k<ps.length
  ·have hkk:k<ks.length:=by have:=hl.out;omega
   obtain⟨b1,o1,rfl,⟨_,hb1⟩,hc1⟩:=(hk.keepS (Xv.of_below (HB.mono hB))) k (by simpa using hkk);obtain⟨b2,o2,rfl,⟨_,hb2⟩,hc2⟩:=(hp.keepS (Xv.of_below (HB.mono hB))) k (by simpa using hlt);rw[List.getElem_map]at hc1 hc2;unfold ZU at hc2;have HT:Hid (XD (ks.take (k+1)) (ps.take (k+1))=XD (ks.take k) (ps.take k)++(if ks[k]then [ps[k]]else [])):=Xa (by rw[List.take_succ_eq_append_getElem hkk,List.take_succ_eq_append_getElem hlt,Zd7 _ _ _ _ (by simp only[List.length_take];omega)]);have HL:Hid ((XD (ks.take k) (ps.take k)).length+1<=2000):=Xa (by have:=Zf9 (ks.take k) (ps.take k);simp only[List.length_take]at this;omega);generalize ks[k]=K at *;generalize ps[k]=p at *;cases K with
   | false =>
    have HO1:Hid (wr.ownsRow w.heap.size 147 1 u5 (XD (ks.take (k+1)) (ps.take (k+1))).length ((XD (ks.take (k+1)) (ps.take (k+1))).map ZU)):=Xa (by rw[HT.out];simpa using HO.out);go_wp2;exact⟨⟨k+1,oM,gM,HB,HO1⟩,by simp[intOf];omega⟩
   | true =>
    have HT':Hid (XD (ks.take (k+1)) (ps.take (k+1))=XD (ks.take k) (ps.take k)++[p]):=Xa (by have:=HT.out;simpa using this)
    go_wp2_with (at_builtin;refine wpList_append_own_at _ rfl _ _ 103 rfl w.heap.size 147 i0 (.pointer none) 1 8 Tryz.underlying103 hi0 hz0 hz1 hz2 rfl dC _ _ _ rfl (HO.alloc _) ⟨wr.heap.size,0,none⟩ 1 1 [.pointer (some p)] rfl rfl ?c1 ?c2 ?c3 ?c4 ?c5 ?_)
    case c2=>first | rfl | simp | (intro u hu;simp at hu;subst hu;rfl)
    case c3=>have:=HL.out;unfold maxLen;omega
    case c4=>have:=HL.out;omega
    case c5=>first | omega | (simp;omega)
    intro v1 w1 hown1 hgrow1 hne1 hat1;have HO1:Hid (w1.ownsRow w.heap.size 147 1 v1 (XD (ks.take (k+1)) (ps.take (k+1))).length ((XD (ks.take (k+1)) (ps.take (k+1))).map ZU)):=Xa (by rw[HT'.out,Zfj,List.length_append];exact hown1);have HB1:Hid (Below w.heap.size w w1):=Xa (Xr ((HB.out).alloc oM _) hgrow1 (HO.alloc _) (Nat.le_refl _) (by simp;omega));clear hown1 hgrow1 hne1 hat1;go_wp2;exact⟨⟨k+1,oM,gM,HB1,HO1⟩,by simp[intOf];omega⟩
  ·have HO2:Hid (wr.ownsRow w.heap.size 147 1 u5 (XD ks ps).length ((XD ks ps).map ZU)):=Xa (by have:=HO.out;have e:=hl.out;rwa[List.take_of_length_le oM,List.take_of_length_le oM]at this)
   go_wp2
   go_ret
   exact⟨_,rfl,HB.out,HO2.out⟩
end Go.Proofs.YtlmgmkmomaileaaGreatDoor
namespace Go.Proofs.YtlmgmkmomaileaaGreatDoor
open Go.RowKit
structure Gr(w w':World)(u v:Value):Prop where
 grown:w.grownBy w' u.ownBlock
 own:∀g,v.ownBlock=some g->w.heap.size<=g\/u.ownBlock=some g
theorem Gr.refl(w:World)(u:Value):Gr w w u u:=⟨⟨rfl,rfl,rfl,Nat.le_refl _,fun _ _ _=>rfl⟩,fun _ h=>Or.inr h⟩
theorem Gr.below{w w' W:World}{u v:Value}{B e s n:Nat}{xs:List Value}(h:Gr w w' u v)(ho:w.ownsRow B e s u n xs)(hb:Below B W w)(hB:B<=w.heap.size):Below B W w' :=
 hb.grown h.grown hB (fun k hk=>(ho.lt k hk).1)
theorem ZdV(l:List Int)(v:Int):(l++[v]).map (Value.int .i64)=l.map (Value.int .i64)++[Value.int .i64 v]:=sP
end Go.Proofs.YtlmgmkmomaileaaGreatDoor
namespace Go.Proofs.YtlmgmkmomaileaaGreatDoor
set_option maxHeartbeats 2000000
open Go.RowKit
theorem Vs(ps:List Ph)(p:Ph):XF (ps++[p])=XF ps++[p.dst]:=by simp[XF]
theorem Ux(ps:List XN)(p:XN):XY (ps++[p])=XY ps++(if dB p.op then [p.dst]else []):=by
 simp only[XY,List.filter_append,List.map_append];congr 1;cases h:dB p.op<;>simp[h]
theorem T8(ps:List Xh)(p:Xh):blksDefs (ps++[p])=blksDefs ps++Te p:=by simp[blksDefs]
theorem KV(xs:List XN):(XY xs).length<=xs.length:=by simp only[XY,List.length_map];exact List.length_filter_le _ _
theorem Ku(xs:List Xh):(blksDefs xs).length<=Xn xs:=by
 induction xs with
 | nil=>simp[blksDefs]
 | cons x xs ih =>
  have h1:blksDefs (x::xs)=Te x++blksDefs xs:=by simp[blksDefs]
  have h2:Xn (x::xs)=ZF x+Xn xs:=by simp[Xn]
  have h3:(Te x).length<=ZF x:=by
   simp only[Te,XF,List.length_append,List.length_map,ZF];have:=KV x.instrs;omega
  rw[h1,h2,List.length_append];omega
theorem Zde{w wr w1:World}{u:Value}{n:Nat}{xs:List Value}{a:Option Addr}{N c:Nat}(hw:Below w.heap.size w wr)(hsz:w.heap.size<wr.heap.size)(hcell:wr.cell? ⟨w.heap.size,1,none⟩=some (.slice a N c))
 (o:Obj) (hown:wr.ownsRow (w.heap.size+1) 2 1 u n xs) (hg:(wr.alloc o).grownBy w1 u.ownBlock) :
 Below w.heap.size w w1/\w.heap.size<w1.heap.size/\w1.cell? ⟨w.heap.size,1,none⟩=some (.slice a N c)/\wr.heap.size<=w1.heap.size:=by
 have hz:=hg.size;simp at hz;refine⟨Xr (Xb hw _) hg (hown.alloc _) oM (by simp;omega),oM,?_,oM⟩;exact(Xc (YD hg (hown.alloc _) (b:=w.heap.size) oM (by simp;omega))).trans (((Xb (Below.refl wr.heap.size wr) _).cell (p:=⟨w.heap.size,1,none⟩) hsz).trans hcell)
theorem Zer(v:Int)(a:Option Addr)(n c:Nat)(xs:List Xh)(L B:Nat)(w:World)(ha:Hid (Xk w L B a xs))(hx:Hid (n=xs.length))(hn:n<=1048576)(hs:Hid (Xn xs<=1048576))(hB:B<=w.heap.size) :
 Calls Tryz.prog 87 #[.agg #[.int .i64 v,.slice a n c]] w fun e w'=>∃a' c',e=.returned (.slice a' (blksDefs xs).length c')/\Below w.heap.size w w'/\Xf w' w.heap.size w'.heap.size a' (blksDefs xs):=by
 obtain⟨i0,hi0,hz0,hz1,hz2⟩:=info_parts Tryz.info2'
 go_enter Tryz.func87,Tryz.ntmps87
 go_wp2
 go_loopw [3,4] (fun u i wr=>∃k:Nat,k<=n/\i=.int .i64 k/\Below w.heap.size w wr/\w.heap.size<wr.heap.size/\wr.cell? ⟨w.heap.size,1,none⟩=some (.slice a n c)/\wr.ownsRow (w.heap.size+1) 2 1 u (blksDefs (xs.take k)).length ((blksDefs (xs.take k)).map (Value.int .i64))) (fun _ i _=>n-(intOf i).toNat)
 case atStart=>exact⟨0,Nat.zero_le _,rfl,Xb (Xb (Below.refl _ _) _) _,by simp;omega,sP,JZ _ _⟩
 case round =>
  obtain⟨k,hk,rfl,hw,hsz,hcell,hown⟩:=hrel;by_cases hlt:k<n
  ·have hkx:k<xs.length:=by have:=hx.out;omega
   obtain⟨b,o,rfl,⟨_,hbB⟩,hc⟩:=ha.out k hkx;have HC:=Xa hc;have hnx:Hid (blksDefs (xs.take (k+1))=blksDefs (xs.take k)++(XF xs[k].phis++XY xs[k].instrs)):=by
    show _=_;rw[Xq _ _ hkx,T8];rfl
   have hbd:(blksDefs (xs.take k)).length+(xs[k].phis.length+Yb xs[k].phis+xs[k].instrs.length)<=1048576:=by
    have h1:=Kz xs (k+1);rw[Xq _ _ hkx,Kx]at h1;have h2:=Ku (xs.take k);have h3:=hs.out;have h4:ZF xs[k]=xs[k].phis.length+Yb xs[k].phis+xs[k].instrs.length:=rfl;omega
   have hpl:xs[k].phis.length<=1048576:=oM;have hil:xs[k].instrs.length<=1048576:=oM;have HO:=Xa hown;clear hown hc;generalize hX:xs[k]=X at *;clear hX;generalize blksDefs (xs.take k)=D at *;obtain⟨pa,pc,ia,ic,e0,e1,_,hp,hi⟩:=HC.out;have HP:=Xa hp;have HI:=Xa hi;have E0:=Xa e0;have E1:=Xa e1;clear e0 e1 hp hi HC;go_wp2
   go_loopw [3,5] (fun u i wi=>∃j:Nat,j<=X.phis.length/\i=.int .i64 j/\Below w.heap.size w wi/\w.heap.size<wi.heap.size/\wi.cell? ⟨w.heap.size,1,none⟩=some (.slice (some ⟨b,o,none⟩) n c)/\wi.ownsRow (w.heap.size+1) 2 1 u (D++XF (X.phis.take j)).length ((D++XF (X.phis.take j)).map (Value.int .i64))) (fun _ i _=>X.phis.length-(intOf i).toNat)
   case atStart=>exact⟨0,Nat.zero_le _,rfl,hw,hsz,hcell,by simpa [XF]using HO.out⟩
   case round =>
    obtain⟨j,hj,rfl,hwi,hszi,hcelli,howni⟩:=hrel;have f0:=(Xu hwi oM).trans E0.out;have f1:=(Xu hwi oM).trans E1.out;by_cases hjt:j<X.phis.length
    ·obtain⟨b',o',rfl,⟨_,hbB'⟩,aa,cc,g0,g1,_⟩:=HP.out j hjt
     have e2:=(Xu hwi oM).trans g0;have h3:Hid (D++XF (X.phis.take (j+1))=(D++XF (X.phis.take j))++[X.phis[j].dst]):=by show _=_;rw[Xq _ _ hjt,Vs,List.append_assoc]
     have hl:(D++XF (X.phis.take j)).length<=1048576:=by simp[XF];omega
     clear g0 g1;generalize X.phis[j]=P at *;generalize D++XF (X.phis.take j)=D1 at *;have HOi:=Xa howni;clear howni f1
     go_wp2_with (at_builtin;refine wpList_append_own _ rfl _ _ 25 rfl (w.heap.size+1) 2 i0 (.int .i64 0) 1 8 Tryz.underlying25 hi0 hz0 hz1 hz2 rfl dC _ _ _ rfl (HOi.alloc _) ⟨wr.heap.size,0,none⟩ 1 1 [.int .i64 P.dst] rfl rfl ?c1 ?c2 ?c3 ?c4 ?c5 ?_)
     case c1 =>
      intro j u hj
      match j,hj with
      | 0,hj=>simp at hj;subst hj;simp[Addr.add]
     case c2=>intro u hu;simp at hu;subst hu;rfl
     case c3=>unfold maxLen;omega
     case c4=>omega
     case c5=>simp;omega
     intro v1 w1 hown1 hgrow1 _;have HO1:=Xa hown1;clear hown1;go_wp2;obtain⟨q1,q2,q3,_⟩:=Zde hwi hszi hcelli _ HOi.out hgrow1;exact⟨⟨j+1,oM,gM,q1,q2,q3,by rw[h3.out,Yo];simpa using HO1.out⟩,by simp[intOf];omega⟩
    ·have hE:=Xa (List.take_of_length_le (l:=X.phis) (i:=j) oM)
     have HOi:=Xa howni;clear howni;go_wp2
     go_loopw [3,6] (fun u i wi=>∃j:Nat,j<=X.instrs.length/\i=.int .i64 j/\Below w.heap.size w wi/\w.heap.size<wi.heap.size/\wi.cell? ⟨w.heap.size,1,none⟩=some (.slice (some ⟨b,o,none⟩) n c)/\wi.ownsRow (w.heap.size+1) 2 1 u (D++XF X.phis++XY (X.instrs.take j)).length ((D++XF X.phis++XY (X.instrs.take j)).map (Value.int .i64))) (fun _ i _=>X.instrs.length-(intOf i).toNat)
     case atStart=>exact⟨0,Nat.zero_le _,rfl,hwi,hszi,hcelli,by have:=HOi.out;rw[hE.out]at this;simpa [XY]using this⟩
     case round =>
      clear hwi hszi hcelli f0 f1 HOi hE;obtain⟨j,hj,rfl,hwi,hszi,hcelli,howni⟩:=hrel;have f1:=(Xu hwi oM).trans E1.out;by_cases hjt:j<X.instrs.length
      ·obtain⟨b',o',rfl,⟨_,hbB'⟩,g0,g1,_,_,_⟩:=HI.out j hjt
       have e2:=(Xu hwi oM).trans g0;have e3:=(Xu hwi oM).trans g1;have h3:Hid (D++XF X.phis++XY (X.instrs.take (j+1))=(D++XF X.phis++XY (X.instrs.take j))++(if dB X.instrs[j].op then [X.instrs[j].dst]else [])):=by show _=_;rw[Xq _ _ hjt,Ux,<-List.append_assoc]
       have hl:(D++XF X.phis++XY (X.instrs.take j)).length<=1048576:=by have:=KV (X.instrs.take j);simp[XF]at this |-;omega
       clear g0 g1;generalize X.instrs[j]=P at *;generalize D++XF X.phis++XY (X.instrs.take j)=D1 at *;have HOi:=Xa howni;clear howni;cases hd:dB P.op
       ·have HD:=Xa hd
        go_wp2_with (go_at_call 33;refine(ZeT _ _).mono ?_;rintro e w2 ⟨rfl,hw2⟩;rw[hw2];clear hw2 w2)
        exact⟨⟨j+1,oM,gM,hwi,hszi,hcelli,by rw[h3.out,HD.out];simpa using HOi.out⟩,by simp[intOf];omega⟩
       ·have HD:=Xa hd
        go_wp2_with (first | (go_at_call 33;refine(ZeT _ _).mono ?_;rintro e w2 ⟨rfl,hw2⟩;rw[hw2];clear hw2 w2) | (at_builtin;refine wpList_append_own _ rfl _ _ 25 rfl (w.heap.size+1) 2 i0 (.int .i64 0) 1 8 Tryz.underlying25 hi0 hz0 hz1 hz2 rfl dC _ _ _ rfl (HOi.alloc _) ⟨wr.heap.size,0,none⟩ 1 1 [.int .i64 P.dst] rfl rfl ?c1 ?c2 ?c3 ?c4 ?c5 ?_))
        case c1 =>
         intro j u hj
         match j,hj with
         | 0,hj=>simp at hj;subst hj;simp[Addr.add]
        case c2=>intro u hu;simp at hu;subst hu;rfl
        case c3=>unfold maxLen;omega
        case c4=>omega
        case c5=>simp;omega
        intro v1 w1 hown1 hgrow1 _;have HO1:=Xa hown1;clear hown1;go_wp2;obtain⟨q1,q2,q3,_⟩:=Zde hwi hszi hcelli _ HOi.out hgrow1;exact⟨⟨j+1,oM,gM,q1,q2,q3,by rw[h3.out,HD.out,if_pos rfl,Yo];simpa using HO1.out⟩,by simp[intOf];omega⟩
      ·have hE:=Xa (List.take_of_length_le (l:=X.instrs) (i:=j) oM)
       have HOi:=Xa howni;clear howni;go_wp2;exact⟨⟨k+1,oM,gM,hwi,hszi,hcelli,by have:=HOi.out;rw[hE.out]at this;rw[hnx.out,<-List.append_assoc];exact this⟩,by simp[intOf];omega⟩
  ·go_wp2
   go_ret
   have e:=List.take_of_length_le (l:=xs) (i:=k) (by have:=hx.out;omega);rw[e]at hown;obtain⟨a1,c1,rfl,hi1⟩:=Xl hown;exact⟨_,_,rfl,hw,hi1.mono oM (Nat.le_refl _)⟩
end Go.Proofs.YtlmgmkmomaileaaGreatDoor
namespace Go.Proofs.YtlmgmkmomaileaaGreatDoor
open Go.RowKit
theorem Ty{P:Program}{w:World}(base:Nat)(t ty e:TypeId)(i:TypeInfo)(size:Nat)(ht:P.underlying t=some (.slice e))(hi:P.info? e=some i)
 (v:Value) (n c:Nat) (xs:List Value) (hown:w.ownsRow base e size v n xs) :
 (Builtin.append_ #[t,t] ty #[v,.slice none 0 c]).run P w=.ok v w:=by
 rcases hown.2 with⟨rfl,rfl⟩ | ⟨g,cap,cur,rfl,_,_,hnc,_⟩
 ·simp[Builtin.append_,run_underlying ht,sizeOf,typeInfo,hi,Builtin.lenOf,Builtin.firstCells]
 ·simp[Builtin.append_,run_underlying ht,sizeOf,typeInfo,hi,Builtin.lenOf,Builtin.firstCells,hnc,storeCells]
theorem ZfQ{w:World}{L B:Nat}{ad:Addr}{qs:List Int}(hv:Xf w L B (some ad) qs):∀j u,(qs.map (Value.int .i64))[j]?=some u->w.cell? (ad.add j)=some u:=by
 intro j u hj;have hl:j<qs.length:=by
  rcases Nat.lt_or_ge j qs.length with h | h
  ·exact h
  ·rw[List.getElem?_eq_none (by simpa using h)]at hj;cases hj
 obtain⟨b,o,e,-,hc⟩:=hv j hl;cases e;rw[List.getElem?_map,List.getElem?_eq_getElem hl]at hj;cases hj;rw[Addr.add_lit];exact hc
theorem Jm{P:Program}{w:World}{o:Oper}{a:Act}{K:Act->World->Prop}{Q:Exit->Act->World->Prop}(s x:Operand)(t:TypeId)
 (ho:o.op=.call { callee:=.builtin .append,args:=#[s,x],argTypes:=#[t,t] })
 (base:Nat) (e:TypeId) (i:TypeInfo) (ht:P.underlying t=some (.slice e)) (hi:P.info? e=some i) (hz:i.zero=some (.int .i64 0))
 (hsize:i.size=1) (hby:i.bytes=8)
 (v:Value) (xs:List Int) (hs:a.eval s=v) (hown:w.ownsRow base e 1 v xs.length (xs.map (Value.int .i64))) (hn:v≠.slice none 0 0)
 (ad:Option Addr) (m c:Nat) (qs:List Int) (L B:Nat) (hx:a.eval x=.slice ad m c) (hm:m=qs.length) (hv:Xf w L B ad qs)
 (hbytes:xs.length+m<=1000000000000) (hbase:base<=w.heap.size)
 (h:∀v' w',w'.ownsRow base e 1 v' (xs++qs).length ((xs++qs).map (Value.int .i64))->Gr w w' v v'->v'≠.slice none 0 0->K (a.put o.dst v') w') :
 o.wp P a w K Q:=by
 cases ad with
 | none =>
  have has:qs=[]:=by
   cases qs with
   | nil=>rfl
   | cons x r=>obtain⟨_,_,e,_⟩:=hv 0 sP;cases e
  subst has;subst hm;have hrun:=Ty (P:=P) (w:=w) base t o.type e i 1 ht hi v xs.length c _ hown;unfold Oper.wp execOp;simp only[ho,resolve,invoke,builtin,Sem.run_bind,Sem.run_pure,Result.andThen_ok,List.map_toArray,List.map_cons,List.map_nil,hs,hx,List.length_nil,hrun];exact h v w (by simpa using hown) (Gr.refl _ _) hn
 | some ad =>
  obtain⟨v',w',hr,h1,h2,h3,h4⟩:=run_append_own_at (P:=P) w base t o.type e i (.int .i64 0) 1 8 ht hi hz hsize hby rfl dC v xs.length _ hown ad m c (qs.map (Value.int .i64)) (by simp[hm]) (ZfQ hv) (by intro u hu;obtain⟨z,-,rfl⟩:=List.mem_map.1 hu;rfl) (by unfold maxLen;omega) oM hbase;unfold Oper.wp execOp;simp only[ho,resolve,invoke,builtin,Sem.run_bind,Sem.run_pure,Result.andThen_ok,List.map_toArray,List.map_cons,List.map_nil,hs,hx,hr];refine h v' w' (by rw[List.length_append,List.map_append,<-hm];exact h1) ⟨h2,fun g hg=>?_⟩ (fun e=>hn (h3.1 e).1);rcases h4 with h4 | h4
  ·exact Or.inr (h4 ▸ hg)
  ·rw[h4]at hg;cases hg;exact Or.inl (Nat.le_refl _)
end Go.Proofs.YtlmgmkmomaileaaGreatDoor
namespace Go.Proofs.YtlmgmkmomaileaaGreatDoor
set_option maxHeartbeats 1000000
set_option maxRecDepth 100000
open Go.RowKit
theorem ZZ(fa:Option Addr)(fc:Nat)(ps:List Addr)(vs:List Int)(L B:Nat)(w:World)(hB:B<=w.heap.size)(hp:Hid (Yk w L B fa (ps.map ZU)))(hl:Hid (vs.length=ps.length))(hv:Hid (∀i (h:i<ps.length) (h':i<vs.length),ps[i].block<w.heap.size/\w.cell? ps[i]=some (.int .i64 vs[i])))(hs:ps.length<=1000) :
 Calls Tryz.prog 149 #[.slice fa ps.length fc] w fun e w'=>∃v,e=.returned v/\Below w.heap.size w w'/\w'.ownsRow w.heap.size 2 1 v vs.length (vs.map (Value.int .i64)):=by
 obtain⟨i0,hi0,hz0,hz1,hz2⟩:=info_parts Tryz.info2'
 go_enter Tryz.func149,Tryz.ntmps149
 go_wp2
 go_loopw [3,9] (fun v i wr=>∃k:Nat,k<=ps.length/\i=.int .i64 k/\Hid (Below w.heap.size w wr)/\Hid (wr.ownsRow w.heap.size 2 1 v (vs.take k).length ((vs.take k).map (Value.int .i64)))) (fun _ i _=>ps.length-(intOf i).toNat)
 case atStart=>exact⟨0,Nat.zero_le _,rfl,Xa (Xb (Below.refl _ _) _),Xa (by
  have:=World.ownsRow_lit (base:=w.heap.size) (e:=2) (size:=1) w #[] 0 sP sP rfl;simpa using this)⟩
 case round =>
  obtain⟨k,hk',rfl,HB,HO⟩:=hrel;have hwz:=HB.size;by_cases hlt:k<ps.length
  ·have hkk:k<vs.length:=by have:=hl.out;omega
   obtain⟨b2,o2,rfl,⟨_,hb2⟩,hc2⟩:=(hp.keepS (Xv.of_below (HB.mono hB))) k (by simpa using hlt);rw[List.getElem_map]at hc2;unfold ZU at hc2;obtain⟨hq1,hq2⟩:=hv.out k hlt hkk;have hc3:=(HB.cell (p:=ps[k]) hq1).trans hq2;have HT:Hid ((vs.take (k+1))=vs.take k++[vs[k]]):=Xa (List.take_succ_eq_append_getElem hkk);have HL:Hid ((vs.take k).length+1<=2000):=Xa (by have:=hl.out;simp only[List.length_take];omega);clear hq1 hq2;generalize vs[k]=V at *;generalize ps[k]=p at *
   go_wp2_with (at_builtin;refine wpList_append_own_at _ rfl _ _ 25 rfl w.heap.size 2 i0 (.int .i64 0) 1 8 Tryz.underlying25 hi0 hz0 hz1 hz2 rfl dC _ _ _ rfl (HO.alloc _) ⟨wr.heap.size,0,none⟩ 1 1 [.int .i64 V] rfl rfl ?c1 ?c2 ?c3 ?c4 ?c5 ?_)
   case c1=>exact cell_one_new _ _ _
   case c2=>intro u hu;simp at hu;subst hu;rfl
   case c3=>have:=HL.out;unfold maxLen;omega
   case c4=>have:=HL.out;omega
   case c5=>simp;omega
   intro v1 w1 hown1 hgrow1 hne1 hat1;have HO1:Hid (w1.ownsRow w.heap.size 2 1 v1 (vs.take (k+1)).length ((vs.take (k+1)).map (Value.int .i64))):=Xa (by
    rw[HT.out,ZdV,List.length_append,List.map_take,List.length_take];exact hown1)
   have HB1:Hid (Below w.heap.size w w1):=Xa (Xr ((HB.out).alloc oM _) hgrow1 (HO.alloc _) (Nat.le_refl _) (by simp;omega));clear hown1 hgrow1 hne1 hat1;go_wp2;exact⟨⟨k+1,oM,gM,HB1,HO1⟩,by simp[intOf];omega⟩
  ·have HO2:Hid (wr.ownsRow w.heap.size 2 1 u3 vs.length (vs.map (Value.int .i64))):=Xa (by have:=HO.out;have e:=hl.out;rwa[List.take_of_length_le oM]at this)
   go_wp2
   go_ret
   exact⟨_,rfl,HB.out,HO2.out⟩
end Go.Proofs.YtlmgmkmomaileaaGreatDoor
