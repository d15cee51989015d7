import Derived.Test.YtkehcdfalcakmaaGreatDoorE2
import Derived.Laws.OwnMore
import Derived.Lib.AppendZerosOnto
import Derived.Lib.Walk
import Derived.Lib.SliceRun
import Derived.Deep.LoopGhost
import Derived.WalkMore
namespace Go.Proofs.YtkehcdfalcakmaaGreatDoor
open Go.RowKit
def XT:List Int->List UInt8
 | []=>[]
 | v::r=>32::(Lib.itoa v++XT r)
theorem ZcQ(a:List Int)(v:Int):XT (a++[v])=XT a++32::Lib.itoa v:=by
 induction a with
 | nil=>simp[XT]
 | cons x r ih=>simp[XT,ih]
theorem Za8(a b:List Int):XT (a++b)=XT a++XT b:=by
 induction a with
 | nil=>rfl
 | cons x r ih=>simp[XT,ih]
theorem ZeC(a:List Int):a.length<=(XT a).length:=by
 induction a with
 | nil=>exact Nat.zero_le _
 | cons x r ih=>simp only[XT,List.length_cons,List.length_append];omega
theorem ZcP(a:List Int)(k:Nat):(XT (a.take k)).length<=(XT a).length:=by
 have:=congrArg List.length (Za8 (a.take k) (a.drop k));rw[List.take_append_drop,List.length_append]at this;omega
def lineS(word:List UInt8)(vs:List Int):List UInt8:=word++(XT vs++[10])
theorem Gr.same{w w':World}{u v:Value}{L B:Nat}(h:Gr w w' u v)(hu:∀g,u.ownBlock=some g->g<L\/B<=g)(hB:B<=w.heap.size):X7 L B w w':=fun k h1 h2 =>
 h.grown.block k (by omega) (fun e=>by have:=hu k e.symm;omega)
theorem Gr.calm{w w':World}(h:Below w.heap.size w w')(u:Value):Gr w w' u u:=⟨⟨h.os,h.tape,h.output,h.size,fun k hk _=>h.block k hk⟩,fun _ e=>Or.inr e⟩
theorem Uc{w w':World}{B e s n:Nat}{u:Value}{xs:List Value}(ho:w.ownsRow B e s u n xs)(h:Below w.heap.size w w'):w'.ownsRow B e s u n xs:=by
 refine ho.kept (row:=none) ⟨h.os,h.tape,h.output,h.size,fun k hk _=>h.block k hk⟩ ?_;cases hu:u.ownBlock with
 | none=>exact Or.inl rfl
 | some g=>exact Or.inr (by simp)
def wordS(op:Int):List UInt8 :=
 if op=1 then [99,111,110,115,116]else if op=2 then [97,114,103]else if op=3 then [97,100,100]else if op=4 then [115,117,98]else if op=5 then [109,117,108]
 else if op=6 then [100,105,118]else if op=7 then [108,101,115,115]else if op=8 then [108,111,97,100]else if op=9 then [115,116,111,114,101]else if op=11 then [109,111,118,101]else if op=12 then [112,117,116]else if op=13 then [103,101,116]else [111,117,116]
def ZZ(t:XN):List UInt8 :=
 if t.kind=1 then lineS [106,117,109,112] [t.to]else if t.kind=3 then lineS [114,101,116] [t.a]else lineS [98,114,97,110,99,104] [t.a,t.to,t.els]
theorem ZeV(w:World)(vs:List Int):Xh (w.alloc (.cells (vs.map (Value.int .i64)).toArray 2)) w.heap.size (w.heap.size+1) (some ⟨w.heap.size,0,none⟩) vs:=fun i hi =>
 ⟨_,0,rfl,⟨Nat.le_refl _,Nat.lt_succ_self _⟩,by simp[hi]⟩
def Zgq(x:Xz)(c:UInt8):List Int:=if c=100 then [x.dst]else if c=97 then [x.a]else if c=98 then [x.b]else if c=105 then [x.imm]else []
def Jy(x:Xz)(l:List UInt8):List Int:=l.flatMap (Zgq x)
theorem Zae(x:Xz)(l:List UInt8):(Jy x l).length<=l.length:=by
 induction l with
 | nil=>simp[Jy]
 | cons c r ih =>
  have:(Zgq x c).length<=1:=by
   unfold Zgq
   repeat' split
   all_goals simp
  simp only[Jy,List.flatMap_cons,List.length_append,List.length_cons]at ih |-;omega
theorem ZaU(x:Xz)(l:List UInt8):∀v∈Jy x l,v∈[x.dst,x.a,x.b,x.imm]:=by
 intro v hv;obtain⟨c,-,h⟩:=List.mem_flatMap.1 hv;unfold Zgq at h
 repeat' split at h
 all_goals simp at h
 all_goals simp[h]
def Yl(op:Int):List UInt8:=(ZE op).data.toList
theorem UM(op:Int):(Yl op).length=(ZE op).size:=by unfold Yl;rw[Array.length_toList];rfl
def YJ(x:Xz):List UInt8:=lineS (wordS x.op) (Jy x (Yl x.op))
theorem Zc7(l:List Int)(v:Int):(l++[v]).map (Value.int .i64)=l.map (Value.int .i64)++[Value.int .i64 v]:=by simp
def UX(v:Int):Prop:=-9223372036854775807<=v/\v<=9223372036854775807
theorem Zy(k:Nat):∀u,u<10 ^ (k+1)->(Lib.decDigits u).length<=k+1:=by
 induction k with
 | zero=>intro u h;rw[Lib.decDigits_one (by simpa using h)];simp
 | succ k ih =>
  intro u h;by_cases h10:u<10
  ·rw[Lib.decDigits_one h10];simp
  ·rw[Zar h10,List.length_append,List.length_singleton]
   have:=ih (u / 10) (by rw[Nat.pow_succ]at h;omega);omega
theorem ZeL(v:Int)(h:UX v):(Lib.itoa v).length<=20:=by
 unfold UX at h;unfold Lib.itoa;by_cases h0:v<0
 ·rw[if_pos h0,List.length_cons]
  have:=Zy 18 v.natAbs (by omega);omega
 ·rw[if_neg h0]
  have:=Zy 18 v.toNat (by omega);omega
theorem ZfE(vs:List Int)(h:∀v∈vs,UX v):(XT vs).length<=21*vs.length:=by
 induction vs with
 | nil=>simp[XT]
 | cons x r ih =>
  have h1:=ZeL x (h x (List.mem_cons_self ..));have h2:=ih (fun v hv=>h v (List.mem_cons_of_mem _ hv));simp only[XT,List.length_cons,List.length_append];omega
theorem JR(word:List UInt8)(vs:List Int)(h:∀v∈vs,UX v):(lineS word vs).length<=word.length+21*vs.length+1:=by
 have:=ZfE vs h;simp only[lineS,List.length_append,List.length_singleton];omega
def ZH(p:Ph):List UInt8:=lineS [112,104,105] (p.dst::p.args)
def ZI(x:Xf):List UInt8:=lineS [98,108,111,99,107] []++(x.phis.flatMap ZH++(x.instrs.flatMap YJ++ZZ x.term))
def Jn(F:Fn):List UInt8:=lineS [102,117,110,99] [F.values]++F.blocks.flatMap ZI
structure Zda(x:Xf):Prop where
 phis:∀p∈x.phis,∀v∈p.dst::p.args,UX v
 instrs:∀i∈x.instrs,∀v∈[i.dst,i.a,i.b,i.imm],UX v
 term:∀v∈[x.term.a,x.term.to,x.term.els],UX v
theorem Zaf(op:Int):(wordS op).length<=5:=by
 by_cases h:1<=op/\op<=13
 ·have hc:op=1\/op=2\/op=3\/op=4\/op=5\/op=6\/op=7\/op=8\/op=9\/op=10\/op=11\/op=12\/op=13:=by omega
  rcases hc with rfl | rfl | rfl | rfl | rfl | rfl | rfl | rfl | rfl | rfl | rfl | rfl | rfl<;>decide
 ·unfold wordS
  rw[if_neg (by omega),if_neg (by omega),if_neg (by omega),if_neg (by omega),if_neg (by omega),if_neg (by omega),if_neg (by omega),if_neg (by omega),if_neg (by omega),if_neg (by omega),if_neg (by omega),if_neg (by omega)];decide
theorem Zgp(x:Xz)(h:∀v∈[x.dst,x.a,x.b,x.imm],UX v):(YJ x).length<=100:=by
 have h1:=JR (wordS x.op) (Jy x (Yl x.op)) (fun v hv=>h v (ZaU x _ v hv));have h2:=Zae x (Yl x.op);have h3:=UM x.op;have h4:=T9 x.op;have h5:=Zaf x.op;unfold YJ;omega
theorem ZfK(t:XN)(h:∀v∈[t.a,t.to,t.els],UX v):(ZZ t).length<=90:=by
 unfold ZZ;have h1:=JR [106,117,109,112] [t.to] (fun v hv=>h v (by simp at hv |-;omega));have h2:=JR [114,101,116] [t.a] (fun v hv=>h v (by simp at hv |-;omega));have h3:=JR [98,114,97,110,99,104] [t.a,t.to,t.els] h;simp only[List.length_cons,List.length_nil]at h1 h2 h3
 repeat' split
 all_goals omega
theorem ZfX(ps:List Ph)(h:∀p∈ps,∀v∈p.dst::p.args,UX v):(ps.flatMap ZH).length<=100*(ps.length+YC ps):=by
 induction ps with
 | nil=>simp
 | cons p r ih =>
  have h1:=JR [112,104,105] (p.dst::p.args) (h p (List.mem_cons_self ..));have h2:=ih (fun q hq=>h q (List.mem_cons_of_mem _ hq));have h3:YC (p::r)=p.args.length+YC r:=by simp[YC]
  rw[h3,List.flatMap_cons,List.length_append];unfold ZH at h2 |-;simp only[List.length_cons,List.length_nil]at h1 |-;omega
theorem Zfu(is:List Xz)(h:∀i∈is,∀v∈[i.dst,i.a,i.b,i.imm],UX v):(is.flatMap YJ).length<=100*is.length:=by
 induction is with
 | nil=>simp
 | cons p r ih =>
  have h1:=Zgp p (h p (List.mem_cons_self ..));have h2:=ih (fun q hq=>h q (List.mem_cons_of_mem _ hq));simp only[List.flatMap_cons,List.length_append,List.length_cons];omega
theorem ZgP(x:Xf)(h:Zda x):(ZI x).length<=100*(YF x+1):=by
 have h1:=ZfX x.phis h.phis;have h2:=Zfu x.instrs h.instrs;have h3:=ZfK x.term h.term;have h4:(lineS [98,108,111,99,107] []).length=6:=rfl;unfold ZI YF;rw[List.length_append,List.length_append,List.length_append,h4];omega
theorem ZeM(xs:List Xf)(h:∀x∈xs,Zda x):(xs.flatMap ZI).length<=100*(Xn xs+xs.length):=by
 induction xs with
 | nil=>simp
 | cons p r ih =>
  have h1:=ZgP p (h p (List.mem_cons_self ..));have h2:=ih (fun q hq=>h q (List.mem_cons_of_mem _ hq));have h3:Xn (p::r)=YF p+Xn r:=by simp[Xn]
  rw[h3,List.flatMap_cons,List.length_append,List.length_cons];omega
theorem ZgM(F:Fn)(hv:UX F.values)(h:∀x∈F.blocks,Zda x):(Jn F).length<=100*(Xn F.blocks+F.blocks.length+1):=by
 have h1:=ZeM F.blocks h;have h2:=JR [102,117,110,99] [F.values] (fun v hv'=>by simp at hv';exact hv' ▸ hv);simp only[List.length_cons,List.length_nil]at h2;unfold Jn;rw[List.length_append];omega
end Go.Proofs.YtkehcdfalcakmaaGreatDoor
namespace Go.Proofs.YtkehcdfalcakmaaGreatDoor
set_option maxHeartbeats 2000000
open Go.RowKit
theorem UT(ps:List Ph)(p:Ph):XC (ps++[p])=XC ps++[p.dst]:=by simp[XC]
theorem TW(ps:List Xz)(p:Xz):XV (ps++[p])=XV ps++(if dB p.op then [p.dst]else []):=by
 simp only[XV,List.filter_append,List.map_append];congr 1;cases h:dB p.op<;>simp[h]
theorem Ts(ps:List Xf)(p:Xf):blksDefs (ps++[p])=blksDefs ps++KW p:=by simp[blksDefs]
theorem KE(xs:List Xz):(XV xs).length<=xs.length:=by simp only[XV,List.length_map];exact List.length_filter_le _ _
theorem Ky(xs:List Xf):(blksDefs xs).length<=Xn xs:=by
 induction xs with
 | nil=>simp[blksDefs]
 | cons x xs ih =>
  have h1:blksDefs (x::xs)=KW x++blksDefs xs:=by simp[blksDefs]
  have h2:Xn (x::xs)=YF x+Xn xs:=by simp[Xn]
  have h3:(KW x).length<=YF x:=by
   simp only[KW,XC,List.length_append,List.length_map,YF];have:=KE x.instrs;omega
  rw[h1,h2,List.length_append];omega
theorem ZaT{w wr w1:World}{u:Value}{n:Nat}{xs:List Value}{a:Option Addr}{N c:Nat}(hw:Below w.heap.size w wr)(hsz:w.heap.size<wr.heap.size)(hcell:wr.cell? ⟨w.heap.size,1,none⟩=some (.slice a N c))
 (o:Obj) (hown:wr.ownsRow (w.heap.size+1) 2 1 u n xs) (hg:(wr.alloc o).grownBy w1 u.ownBlock) :
 Below w.heap.size w w1/\w.heap.size<w1.heap.size/\w1.cell? ⟨w.heap.size,1,none⟩=some (.slice a N c)/\wr.heap.size<=w1.heap.size:=by
 have hz:=hg.size;simp at hz;refine⟨XG (Xb hw _) hg (hown.alloc _) (by omega) (by simp;omega),by omega,?_,by omega⟩;exact(Xc (YP hg (hown.alloc _) (b:=w.heap.size) (by omega) (by simp;omega))).trans (((Xb (Below.refl wr.heap.size wr) _).cell (p:=⟨w.heap.size,1,none⟩) hsz).trans hcell)
theorem Zco(v:Int)(a:Option Addr)(n c:Nat)(xs:List Xf)(L B:Nat)(w:World)(ha:Hid (X8 w L B a xs))(hx:Hid (n=xs.length))(hn:n<=1048576)(hs:Hid (Xn xs<=1048576))(hB:B<=w.heap.size) :
 Calls Tryz.prog 20 #[.agg #[.int .i64 v,.slice a n c]] w fun e w'=>∃a' c',e=.returned (.slice a' (blksDefs xs).length c')/\Below w.heap.size w w'/\Xh w' w.heap.size w'.heap.size a' (blksDefs xs):=by
 obtain⟨i0,hi0,hz0,hz1,hz2⟩:=info_parts Tryz.info2'
 go_enter Tryz.func20,Tryz.ntmps20
 go_wp2
 go_loopw [3,4] (fun u i wr=>∃k:Nat,k<=n/\i=.int .i64 k/\Below w.heap.size w wr/\w.heap.size<wr.heap.size/\wr.cell? ⟨w.heap.size,1,none⟩=some (.slice a n c)/\wr.ownsRow (w.heap.size+1) 2 1 u (blksDefs (xs.take k)).length ((blksDefs (xs.take k)).map (Value.int .i64))) (fun _ i _=>n-(intOf i).toNat)
 case atStart=>exact⟨0,Nat.zero_le _,rfl,Xb (Xb (Below.refl _ _) _) _,by simp;omega,by simp,U5 _ _⟩
 case round =>
  obtain⟨k,hk,rfl,hw,hsz,hcell,hown⟩:=hrel;by_cases hlt:k<n
  ·have hkx:k<xs.length:=by have:=hx.out;omega
   obtain⟨b,o,rfl,⟨_,hbB⟩,hc⟩:=ha.out k hkx;have HC:=Xa hc;have hnx:Hid (blksDefs (xs.take (k+1))=blksDefs (xs.take k)++(XC xs[k].phis++XV xs[k].instrs)):=by
    show _=_;rw[X9 _ _ hkx,Ts];rfl
   have hbd:(blksDefs (xs.take k)).length+(xs[k].phis.length+YC xs[k].phis+xs[k].instrs.length)<=1048576:=by
    have h1:=Ub xs (k+1);rw[X9 _ _ hkx,Kd]at h1;have h2:=Ky (xs.take k);have h3:=hs.out;have h4:YF xs[k]=xs[k].phis.length+YC xs[k].phis+xs[k].instrs.length:=rfl;omega
   have hpl:xs[k].phis.length<=1048576:=by omega
   have hil:xs[k].instrs.length<=1048576:=by omega
   have HO:=Xa hown;clear hown hc;generalize hX:xs[k]=X at *;clear hX;generalize blksDefs (xs.take k)=D at *;obtain⟨pa,pc,ia,ic,e0,e1,_,hp,hi⟩:=HC.out;have HP:=Xa hp;have HI:=Xa hi;have E0:=Xa e0;have E1:=Xa e1;clear e0 e1 hp hi HC;go_wp2
   go_loopw [3,5] (fun u i wi=>∃j:Nat,j<=X.phis.length/\i=.int .i64 j/\Below w.heap.size w wi/\w.heap.size<wi.heap.size/\wi.cell? ⟨w.heap.size,1,none⟩=some (.slice (some ⟨b,o,none⟩) n c)/\wi.ownsRow (w.heap.size+1) 2 1 u (D++XC (X.phis.take j)).length ((D++XC (X.phis.take j)).map (Value.int .i64))) (fun _ i _=>X.phis.length-(intOf i).toNat)
   case atStart=>exact⟨0,Nat.zero_le _,rfl,hw,hsz,hcell,by simpa [XC]using HO.out⟩
   case round =>
    obtain⟨j,hj,rfl,hwi,hszi,hcelli,howni⟩:=hrel;have f0:=(Zg hwi (by omega)).trans E0.out;have f1:=(Zg hwi (by omega)).trans E1.out;by_cases hjt:j<X.phis.length
    ·obtain⟨b',o',rfl,⟨_,hbB'⟩,aa,cc,g0,g1,_⟩:=HP.out j hjt
     have e2:=(Zg hwi (by omega)).trans g0;have h3:Hid (D++XC (X.phis.take (j+1))=(D++XC (X.phis.take j))++[X.phis[j].dst]):=by show _=_;rw[X9 _ _ hjt,UT,List.append_assoc]
     have hl:(D++XC (X.phis.take j)).length<=1048576:=by simp[XC];omega
     clear g0 g1;generalize X.phis[j]=P at *;generalize D++XC (X.phis.take j)=D1 at *;have HOi:=Xa howni;clear howni f1
     go_wp2_with (at_builtin;refine wpList_append_own _ rfl _ _ 44 rfl (w.heap.size+1) 2 i0 (.int .i64 0) 1 8 Tryz.underlying44 hi0 hz0 hz1 hz2 rfl (by decide) _ _ _ rfl (HOi.alloc _) ⟨wr.heap.size,0,none⟩ 1 1 [.int .i64 P.dst] rfl rfl ?c1 ?c2 ?c3 ?c4 ?c5 ?_)
     case c1 =>
      intro j u hj
      match j,hj with
      | 0,hj=>simp at hj;subst hj;simp[Addr.add]
     case c2=>intro u hu;simp at hu;subst hu;rfl
     case c3=>unfold maxLen;omega
     case c4=>omega
     case c5=>simp;omega
     intro v1 w1 hown1 hgrow1 _;have HO1:=Xa hown1;clear hown1;go_wp2;obtain⟨q1,q2,q3,_⟩:=ZaT hwi hszi hcelli _ HOi.out hgrow1;exact⟨⟨j+1,by omega,by go_num,q1,q2,q3,by rw[h3.out,Z1];simpa using HO1.out⟩,by simp[intOf];omega⟩
    ·have hE:=Xa (List.take_of_length_le (l:=X.phis) (i:=j) (by omega))
     have HOi:=Xa howni;clear howni;go_wp2
     go_loopw [3,6] (fun u i wi=>∃j:Nat,j<=X.instrs.length/\i=.int .i64 j/\Below w.heap.size w wi/\w.heap.size<wi.heap.size/\wi.cell? ⟨w.heap.size,1,none⟩=some (.slice (some ⟨b,o,none⟩) n c)/\wi.ownsRow (w.heap.size+1) 2 1 u (D++XC X.phis++XV (X.instrs.take j)).length ((D++XC X.phis++XV (X.instrs.take j)).map (Value.int .i64))) (fun _ i _=>X.instrs.length-(intOf i).toNat)
     case atStart=>exact⟨0,Nat.zero_le _,rfl,hwi,hszi,hcelli,by have:=HOi.out;rw[hE.out]at this;simpa [XV]using this⟩
     case round =>
      clear hwi hszi hcelli f0 f1 HOi hE;obtain⟨j,hj,rfl,hwi,hszi,hcelli,howni⟩:=hrel;have f1:=(Zg hwi (by omega)).trans E1.out;by_cases hjt:j<X.instrs.length
      ·obtain⟨b',o',rfl,⟨_,hbB'⟩,g0,g1,_,_,_⟩:=HI.out j hjt
       have e2:=(Zg hwi (by omega)).trans g0;have e3:=(Zg hwi (by omega)).trans g1;have h3:Hid (D++XC X.phis++XV (X.instrs.take (j+1))=(D++XC X.phis++XV (X.instrs.take j))++(if dB X.instrs[j].op then [X.instrs[j].dst]else [])):=by show _=_;rw[X9 _ _ hjt,TW,<-List.append_assoc]
       have hl:(D++XC X.phis++XV (X.instrs.take j)).length<=1048576:=by have:=KE (X.instrs.take j);simp[XC]at this |-;omega
       clear g0 g1;generalize X.instrs[j]=P at *;generalize D++XC X.phis++XV (X.instrs.take j)=D1 at *;have HOi:=Xa howni;clear howni;cases hd:dB P.op
       ·have HD:=Xa hd
        go_wp2_with (go_at_call 39;refine(Zbm _ _).mono ?_;rintro e w2 ⟨rfl,hw2⟩;rw[hw2];clear hw2 w2)
        exact⟨⟨j+1,by omega,by go_num,hwi,hszi,hcelli,by rw[h3.out,HD.out];simpa using HOi.out⟩,by simp[intOf];omega⟩
       ·have HD:=Xa hd
        go_wp2_with (first | (go_at_call 39;refine(Zbm _ _).mono ?_;rintro e w2 ⟨rfl,hw2⟩;rw[hw2];clear hw2 w2) | (at_builtin;refine wpList_append_own _ rfl _ _ 44 rfl (w.heap.size+1) 2 i0 (.int .i64 0) 1 8 Tryz.underlying44 hi0 hz0 hz1 hz2 rfl (by decide) _ _ _ rfl (HOi.alloc _) ⟨wr.heap.size,0,none⟩ 1 1 [.int .i64 P.dst] rfl rfl ?c1 ?c2 ?c3 ?c4 ?c5 ?_))
        case c1 =>
         intro j u hj
         match j,hj with
         | 0,hj=>simp at hj;subst hj;simp[Addr.add]
        case c2=>intro u hu;simp at hu;subst hu;rfl
        case c3=>unfold maxLen;omega
        case c4=>omega
        case c5=>simp;omega
        intro v1 w1 hown1 hgrow1 _;have HO1:=Xa hown1;clear hown1;go_wp2;obtain⟨q1,q2,q3,_⟩:=ZaT hwi hszi hcelli _ HOi.out hgrow1;exact⟨⟨j+1,by omega,by go_num,q1,q2,q3,by rw[h3.out,HD.out,if_pos rfl,Z1];simpa using HO1.out⟩,by simp[intOf];omega⟩
      ·have hE:=Xa (List.take_of_length_le (l:=X.instrs) (i:=j) (by omega))
       have HOi:=Xa howni;clear howni;go_wp2;exact⟨⟨k+1,by omega,by go_num,hwi,hszi,hcelli,by have:=HOi.out;rw[hE.out]at this;rw[hnx.out,<-List.append_assoc];exact this⟩,by simp[intOf];omega⟩
  ·go_wp2
   go_ret
   have e:=List.take_of_length_le (l:=xs) (i:=k) (by have:=hx.out;omega);rw[e]at hown;obtain⟨a1,c1,rfl,hi1⟩:=Yv hown;exact⟨_,_,rfl,hw,hi1.mono (by omega) (Nat.le_refl _)⟩
end Go.Proofs.YtkehcdfalcakmaaGreatDoor
namespace Go.Proofs.YtkehcdfalcakmaaGreatDoor
open Go.RowKit
theorem Tj{P:Program}{w:World}(base:Nat)(t ty e:TypeId)(i:TypeInfo)(size:Nat)(ht:P.underlying t=some (.slice e))(hi:P.info? e=some i)
 (v:Value) (n c:Nat) (xs:List Value) (hown:w.ownsRow base e size v n xs) :
 (Builtin.append_ #[t,t] ty #[v,.slice none 0 c]).run P w=.ok v w:=by
 rcases hown.2 with⟨rfl,rfl⟩ | ⟨g,cap,cur,rfl,_,_,hnc,_⟩
 ·simp[Builtin.append_,run_underlying ht,sizeOf,typeInfo,hi,Builtin.lenOf,Builtin.firstCells]
 ·simp[Builtin.append_,run_underlying ht,sizeOf,typeInfo,hi,Builtin.lenOf,Builtin.firstCells,hnc,storeCells]
theorem Ze3{w:World}{L B:Nat}{ad:Addr}{qs:List Int}(hv:Xh w L B (some ad) qs):∀j u,(qs.map (Value.int .i64))[j]?=some u->w.cell? (ad.add j)=some u:=by
 intro j u hj;have hl:j<qs.length:=by
  rcases Nat.lt_or_ge j qs.length with h | h
  ·exact h
  ·rw[List.getElem?_eq_none (by simpa using h)]at hj;cases hj
 obtain⟨b,o,e,-,hc⟩:=hv j hl;cases e;rw[List.getElem?_map,List.getElem?_eq_getElem hl]at hj;cases hj;rw[Addr.add_lit];exact hc
theorem VN{P:Program}{w:World}{o:Oper}{a:Act}{K:Act->World->Prop}{Q:Exit->Act->World->Prop}(s x:Operand)(t:TypeId)
 (ho:o.op=.call { callee:=.builtin .append,args:=#[s,x],argTypes:=#[t,t] })
 (base:Nat) (e:TypeId) (i:TypeInfo) (ht:P.underlying t=some (.slice e)) (hi:P.info? e=some i) (hz:i.zero=some (.int .i64 0))
 (hsize:i.size=1) (hby:i.bytes=8)
 (v:Value) (xs:List Int) (hs:a.eval s=v) (hown:w.ownsRow base e 1 v xs.length (xs.map (Value.int .i64))) (hn:v≠.slice none 0 0)
 (ad:Option Addr) (m c:Nat) (qs:List Int) (L B:Nat) (hx:a.eval x=.slice ad m c) (hm:m=qs.length) (hv:Xh w L B ad qs)
 (hbytes:xs.length+m<=1000000000000) (hbase:base<=w.heap.size)
 (h:∀v' w',w'.ownsRow base e 1 v' (xs++qs).length ((xs++qs).map (Value.int .i64))->Gr w w' v v'->v'≠.slice none 0 0->K (a.put o.dst v') w') :
 o.wp P a w K Q:=by
 cases ad with
 | none =>
  have has:qs=[]:=by
   cases qs with
   | nil=>rfl
   | cons x r=>obtain⟨_,_,e,_⟩:=hv 0 (by simp);cases e
  subst has;subst hm;have hrun:=Tj (P:=P) (w:=w) base t o.type e i 1 ht hi v xs.length c _ hown;unfold Oper.wp execOp;simp only[ho,resolve,invoke,builtin,Sem.run_bind,Sem.run_pure,Result.andThen_ok,List.map_toArray,List.map_cons,List.map_nil,hs,hx,List.length_nil,hrun];exact h v w (by simpa using hown) (Gr.refl _ _) hn
 | some ad =>
  obtain⟨v',w',hr,h1,h2,h3,h4⟩:=run_append_own_at (P:=P) w base t o.type e i (.int .i64 0) 1 8 ht hi hz hsize hby rfl (by decide) v xs.length _ hown ad m c (qs.map (Value.int .i64)) (by simp[hm]) (Ze3 hv) (by intro u hu;obtain⟨z,-,rfl⟩:=List.mem_map.1 hu;rfl) (by unfold maxLen;omega) (by omega) hbase;unfold Oper.wp execOp;simp only[ho,resolve,invoke,builtin,Sem.run_bind,Sem.run_pure,Result.andThen_ok,List.map_toArray,List.map_cons,List.map_nil,hs,hx,hr];refine h v' w' (by rw[List.length_append,List.map_append,<-hm];exact h1) ⟨h2,fun g hg=>?_⟩ (fun e=>hn (h3.1 e).1);rcases h4 with h4 | h4
  ·exact Or.inr (h4 ▸ hg)
  ·rw[h4]at hg;cases hg;exact Or.inl (Nat.le_refl _)
structure FrS(w w':World)(n:Nat)(gs:Nat->Nat):Prop where
 os:w'.os=w.os
 tape:w'.tape=w.tape
 output:w'.output=w.output
 size:w.heap.size<=w'.heap.size
 block:∀k,k<w.heap.size->(∀i,i<n->k≠gs i)->w'.heap[k]?=w.heap[k]?
theorem FrS.refl(w:World)(n:Nat)(gs:Nat->Nat):FrS w w n gs:=⟨rfl,rfl,rfl,Nat.le_refl _,fun _ _ _=>rfl⟩
theorem FrS.below{w w1 w2:World}{n:Nat}{gs:Nat->Nat}(h:FrS w w1 n gs)(k:Below w1.heap.size w1 w2):FrS w w2 n gs:=⟨k.os.trans h.os,k.tape.trans h.tape,k.output.trans h.output,Nat.le_trans h.size k.size,fun j h1 h2=>(k.block j (Nat.lt_of_lt_of_le h1 h.size)).trans (h.block j h1 h2)⟩
theorem FrS.grown{w w1 w2:World}{n b:Nat}{gs:Nat->Nat}(h:FrS w w1 n gs)(k:w1.grownBy w2 (some (gs b)))(hb:b<n):FrS w w2 n gs:=⟨k.os.trans h.os,k.tape.trans h.tape,k.output.trans h.output,Nat.le_trans h.size k.size,fun j h1 h2=>(k.block j (Nat.lt_of_lt_of_le h1 h.size) (fun e=>h2 b hb (by injection e))).trans (h.block j h1 h2)⟩
def YN(l:List Nat):List Int:=l.map Int.ofNat
end Go.Proofs.YtkehcdfalcakmaaGreatDoor
