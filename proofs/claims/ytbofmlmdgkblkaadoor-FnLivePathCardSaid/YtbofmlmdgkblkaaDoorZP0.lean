import Derived.Test.YtbofmlmdgkblkaaDoorSS3
namespace Go.Proofs.YtbofmlmdgkblkaaDoor
open Go.RowKit
structure RoS(w:World)(base g m:Nat)(P:Nat->List Int)(U:Nat->Value):Prop where
 lt:g<base
 row:w.rowIs g 47 m U
 own:∀i,i<m->w.ownsRow base 2 1 (U i) (P i).length ((P i).map (Value.int .i64))
 dj:∀i j,i<m->j<m->i≠j->(U i).ownBlock=none\/(U i).ownBlock≠(U j).ownBlock
section
variable {w w' w5 : World} {base g m : Nat} {P P' : Nat -> List Int} {U : Nat -> Value}
theorem RoS.kept(h:RoS w base g m P U){row:Option Nat}(k:w.grownBy w' row)(hr:∀r,row=some r->r≠g/\∀i,i<m->(U i).ownBlock≠some r):RoS w' base g m P U:=by
 refine⟨h.lt,h.row.of_block (k.block _ h.row.lt (fun e=>(hr g e.symm).1 rfl)),fun i hi=>(h.own i hi).kept k ?_,h.dj⟩;cases row with
 | none =>
  cases (U i).ownBlock
  ·exact Or.inl rfl
  ·exact Or.inr (fun e=>by cases e)
 | some r=>exact Or.inr ((hr r rfl).2 i hi)
theorem RoS.below(h:RoS w base g m P U)(k:Below w.heap.size w w'):RoS w' base g m P U :=
 h.kept (row:=none) ⟨k.os,k.tape,k.output,k.size,fun b hb _=>k.block b hb⟩ (fun r e=>by cases e)
theorem RoS.congr(h:RoS w base g m P U)(e:∀i,i<m->P i=P' i):RoS w base g m P' U :=
 ⟨h.lt,h.row,fun i hi=>by rw[<-e i hi];exact h.own i hi,h.dj⟩
theorem RoS.put(h:RoS w base g m P U)(hb:base<=w.heap.size)(k:Below w.heap.size w w5){t:Nat}{p:List Int}{u:Value}(hu:w5.ownsRow w.heap.size 2 1 u p.length (p.map (Value.int .i64))) :
 RoS (w5.setCell ⟨g,t,none⟩ u) base g m (fun i=>if i=t then p else P i) (fun i=>if i=t then u else U i):=by
 have h5:=h.below k;have fresh:∀q,q<m->∀b,u.ownBlock=some b->(U q).ownBlock≠some b:=fun q hq b e1 e2=>by
  have:=(hu.lt b e1).1;have:=((h.own q hq).lt b e2).2;omega
 refine⟨h.lt,(h5.row.set t u).congr (fun i _=>by by_cases e:i=t<;>simp[e]),fun i hi=>?_,fun i j hi hj hij=>?_⟩
 ·by_cases e:i=t
  ·simp only[e,if_true]
   have:w5.ownsRow base 2 1 u p.length (p.map (Value.int .i64)):=by
    refine⟨hu.1,hu.2.imp id ?_⟩;rintro⟨g',cap,cur,e1,e2,e3⟩;exact⟨g',cap,cur,e1,Nat.le_trans hb e2,e3⟩
   exact ownsRow_setCell_below this h.lt _
  ·simp only[e,if_false]
   exact ownsRow_setCell_below (h5.own i hi) h.lt _
 ·by_cases e1:i=t
  ·have e2:¬j=t:=fun e=>hij (e1.trans e.symm)
   simp only[e1,if_true,e2,if_false];cases hq:u.ownBlock with
   | none=>exact Or.inl rfl
   | some b=>exact Or.inr (fun e=>fresh j hj b hq e.symm)
  ·by_cases e2:j=t
   ·simp only[e1,if_false,e2,if_true]
    cases hq:u.ownBlock with
    | none =>
     cases hq2:(U i).ownBlock with
     | none=>exact Or.inl rfl
     | some b=>exact Or.inr (fun e=>by cases e)
    | some b=>exact Or.inr (fresh i hi b hq)
   ·simp only[e1,if_false,e2]
    exact h.dj i j hi hj hij
end
structure VL(w6:World)(G m p z:Nat)(pre:List Sd)(V:World):Prop where
 os:V.os=w6.os
 tape:V.tape=w6.tape
 output:V.output=w6.output
 size:w6.heap.size<=V.heap.size
 fr:∀q,q<w6.heap.size->q≠G->V.heap[q]?=w6.heap[q]?
 zl:w6.heap.size<=z/\z<V.heap.size
 db:∃P U,RoS V w6.heap.size G m P U/\(∀i,i<m->(U i).ownBlock≠some z)/\∀i,i<m->(P i=[]/\∀q∈pre,q.i≠i)\/∃q∈pre,q.i=i/\P i=Xk (Jn q.W p)
section
variable {w6 V V' V5 : World} {G m p z : Nat} {pre : List Sd}
theorem VL.row(h:VL w6 G m p z pre V){r:Nat}(hr:w6.heap.size<=r)(k:V.grownBy V' (some r))(hn:∀P U,RoS V w6.heap.size G m P U->(∀i,i<m->(U i).ownBlock≠some z)->∀i,i<m->(U i).ownBlock≠some r):VL w6 G m p z pre V':=by
 obtain⟨P,U,h1,h2,h3⟩:=h.db;have hl:=h1.lt;exact⟨k.os.trans h.os,k.tape.trans h.tape,k.output.trans h.output,Nat.le_trans h.size k.size,fun q q1 q2=>(k.block q (by have:=h.size;omega) (fun e=>by injection e with e;omega)).trans (h.fr q q1 q2),⟨h.zl.1,Nat.lt_of_lt_of_le h.zl.2 k.size⟩,P,U,h1.kept k (fun q e=>by injection e with e;subst e;exact⟨by omega,hn P U h1 h2⟩),h2,h3⟩
theorem VL.below(h:VL w6 G m p z pre V)(k:Below V.heap.size V V'):VL w6 G m p z pre V':=by
 obtain⟨P,U,h1,h2,h3⟩:=h.db;exact⟨k.os.trans h.os,k.tape.trans h.tape,k.output.trans h.output,Nat.le_trans h.size k.size,fun q q1 q2=>(k.block q (by have:=h.size;omega)).trans (h.fr q q1 q2),⟨h.zl.1,Nat.lt_of_lt_of_le h.zl.2 k.size⟩,P,U,h1.below k,h2,h3⟩
theorem VL.turn(h:VL w6 G m p z pre V)(k:V.grownBy V' (some z)):VL w6 G m p z pre V':=h.row h.zl.1 k (fun _ _ _ h2=>h2)
theorem VL.own(w6:World)(G m p z:Nat):OwnFrom w6.heap.size (VL w6 G m p z):=fun pre V V' row h k q=>by
 cases row with
 | none=>exact h.below ⟨k.os,k.tape,k.output,k.size,fun b hb=>k.block b hb (fun e=>by cases e)⟩
 | some r =>
  obtain⟨h1,o,h2,h3⟩:=q r rfl;refine h.row h1 k (fun P U hU _ i hi e=>?_);rcases(hU.own i hi).2 with⟨e1,_⟩ | ⟨g,cap,cur,e1,_,h4,_⟩
  ·rw[e1]at e;cases e
  ·rw[e1]at e
   injection e with e;have e:g=r:=e;subst e;rw[h2]at h4;injection h4 with h4;subst h4;cases h3
theorem VL.push(h:VL w6 G m p z pre V){s:Sd}(k:Below V.heap.size V V5){u:Value}(hu:V5.ownsRow V.heap.size 2 1 u (Jn s.W p).length ((Xk (Jn s.W p)).map (Value.int .i64))):VL w6 G m p z (pre++[s]) (V5.setCell ⟨G,s.i,none⟩ u):=by
 obtain⟨P,U,h1,h2,h3⟩:=h.db;have hl:=h1.lt;have h5:=h.below k;rw[show(Jn s.W p).length=(Xk (Jn s.W p)).length by simp[Xk]]at hu;refine⟨h5.os,h5.tape,h5.output,by rw[Xd];exact h5.size,fun q q1 q2=>(Below.heap_setCell _ _ _ _ q2).trans (h5.fr q q1 q2),⟨h5.zl.1,by rw[Xd];exact h5.zl.2⟩,_,_,h1.put h.size k hu,fun i hi=>?_,fun i hi=>?_⟩
 ·by_cases e:i=s.i
  ·simp only[e,if_true]
   intro e2;have:=(hu.lt z e2).1;have:=h.zl.2;omega
  ·simp only[e,if_false]
   exact h2 i hi
 ·by_cases e:i=s.i
  ·simp only[e,if_true]
   exact Or.inr ⟨s,by simp,rfl,rfl⟩
  ·simp only[e,if_false]
   rcases h3 i hi with⟨e1,e2⟩ | ⟨q,q1,q2,q3⟩
   ·refine Or.inl ⟨e1,fun q hq=>?_⟩
    rcases List.mem_append.1 hq with hq | hq
    ·exact e2 q hq
    ·rw[List.mem_singleton.1 hq]
     exact fun e3=>e e3.symm
   ·exact Or.inr ⟨q,List.mem_append_left _ q1,q2,q3⟩
theorem VL.cell(h:VL w6 G m p z pre V){b o:Nat}{v:Value}(hb:b≠G)(hc:w6.cell? ⟨b,o,none⟩=some v):V.cell? ⟨b,o,none⟩=some v:=(Xc (h.fr b (World.block_lt_of_cell? w6 _ hc) hb)).trans hc
end
end Go.Proofs.YtbofmlmdgkblkaaDoor
namespace Go.Proofs.YtbofmlmdgkblkaaDoor
set_option maxHeartbeats 4000000
set_option maxRecDepth 100000
open Go.RowKit Go.Shelf
attribute [local go_sem] Oper.semAt_some
theorem Tryd.infoSetP:(Tryd.prog.info? 47).map (fun i=>(i.zero,i.size,i.bytes))=some (some (.agg #[.slice none 0 0]),1,24):=by kernel_rfl
theorem FlR.lou{V:Nat}{w w':World}{n Kw:Nat}{xs:List Xg}{Gi Go:Nat}{gi go ci:Nat->Nat}{WI WX:Nat->Nat->Nat}(h:FlR w w' n Kw xs Gi Go gi go ci WI WX)(ho:UF V xs)(hx:n=xs.length):∀b,b<n->∀x,x<64*Kw->(Xf (WX b) x=true↔Lou xs x b):=fun b hb x hx'=>by
 obtain⟨I,T,W0,ord,q1,q2,q3,q4,q5,q6⟩:=h.inn;have hLI:∀b,b<n->∀x,x<64*Kw->(Xf (WI b) x=true↔Lin xs x b):=fun b hb x hx'=>(q5 b hb x hx').trans (ZeY ho q1 q2 q3 (ord:=(·∈ord)) q4 (by omega))
 have hbx:b<xs.length:=by omega
 rw[q6 b hb x,q3 b hbx,<-KS ho hbx];constructor
 ·rintro(h | ⟨t,ht,h⟩)
  ·exact Or.inl h
  ·exact Or.inr ⟨t,ht,(hLI t (by have:=ho.okf.tg _ hbx _ ht;omega) x hx').1 h⟩
 ·rintro(h | ⟨t,ht,h⟩)
  ·exact Or.inl h
  ·exact Or.inr ⟨t,ht,(hLI t (by have:=ho.okf.tg _ hbx _ ht;omega) x hx').2 h⟩
theorem Ziv(x:Xg)(W0:Nat->Nat){i:Nat}(hi:i<=x.instrs.length):∃W,(i,W)∈KV x.instrs.length W0 (plL x):=by
 rw[ZcQ];cases i with
 | zero=>exact⟨_,List.mem_append_right _ (List.mem_singleton.2 rfl)⟩
 | succ j =>
  refine⟨_,List.mem_append_left _ (List.mem_map.2 ⟨⟨j,hi⟩,?_,rfl⟩)⟩;unfold TA;rw[List.take_of_length_le (by simp)];exact List.mem_reverse.2 (List.mem_finRange _)
def PoA(w w':World)(m:Nat)(P:Nat->List Int)(e:Ending):Prop:=∃base G U,e=.returned (.slice (some ⟨G,0,none⟩) m m)/\w.heap.size<=G/\Below w.heap.size w w'/\RoS w' base G m P U
theorem VL.done{w6 V':World}{G p z Vn k:Nat}{xs:List Xg}(ho:UF Vn xs)(hk:k<xs.length){W0:Nat->Nat}(hV:Vn<=p)(hq:∀v,v<p->(Xf W0 v=true↔Lou xs v k)){ss:List Sd}(hs:ss.map Sd.dat=KV xs[k].instrs.length W0 (plL xs[k]))(h:VL w6 G (xs[k].instrs.length+1) p z ss V') :
 ∃U,RoS V' w6.heap.size G (xs[k].instrs.length+1) (fun i=>Xk (ptP xs xs[k] Vn k i)) U:=by
 obtain⟨P,U,h1,_,h3⟩:=h.db;refine⟨U,h1.congr (fun i hi=>?_)⟩;rcases h3 i hi with⟨_,e⟩ | ⟨q,q1,q2,q3⟩
 ·obtain⟨W,hW⟩:=Ziv xs[k] W0 (i:=i) (by omega)
  rw[<-hs]at hW;obtain⟨q,q1,q2⟩:=List.mem_map.1 hW;exact absurd (congrArg Prod.fst q2) (e q q1)
 ·rw[q3]
  have hm:(i,q.W)∈KV xs[k].instrs.length W0 (plL xs[k]):=by
   rw[<-hs,<-q2];exact List.mem_map.2 ⟨q,q1,rfl⟩
  rw[Zir ho hk hV hq hm]
theorem Zct(V:Nat)(a:Option Addr)(n c k:Nat)(xs:List Xg)(L B:Nat)(w:World)(ha:Hid (Xy w L B a xs))(hx:Hid (n=xs.length))(hs:Hid (xs.length+X7 xs<=1048576))(hB:B<=w.heap.size)(hO:Hid (YG w))(hT:Hid (Ym w))(hTz:Hid (Jz w))(hv:Hid (Y7 ⟨(V:Int),xs⟩=true))(ho:Hid (UF V xs))(hk:k<n)(hkx:k<xs.length) :
 Calls Tryd.prog 7 #[.agg #[.int .i64 (V:Int),.slice a n c],.int .i64 (k:Int)] w fun e w'=>PoA w w' (xs[k].instrs.length+1) (fun i=>Xk (ptP xs xs[k] V k i)) e:=by
 have HVF:=Xa (fun W (hb:Below w.heap.size w W)=>Z2 (V:Int) a n c xs L B W (Xa (ha.keep (hb.mono hB))) hx hs (by have:=hb.size;omega) (Xa (hO.keep hb hO.1).old) (Xa (hT.keep hb hT.1).old));rw[hv.out]at HVF;have hn:n<=1000:=by have:=hx.out;have:=ho.okf.n2;omega
 refine(callsIn_wide (n:=9)).1 ?_;refine callsIn_of_wp_marks Tryd.func7 rfl trivial ?_ rfl;simp only[Tryd.ntmps7,List.size_toArray,List.length_cons,List.length_nil,Nat.reduceAdd,Nat.reduceSub,Array.replicate_succ,Array.replicate_zero,List.push_toArray,List.append_toArray,List.nil_append,List.cons_append]
 gi_wp2
 refine⟨trivial,(callsIn_wide.2 (HVF.out _ (Xb (Below.refl _ _) _))).mono ?_⟩;rintro e w1 ⟨rfl,hb1⟩;have g0:=(hb1.cell (p:=⟨w.heap.size,0,none⟩) (by simp)).trans (show _=some (.int .i64 (V:Int)) by simp);have g1:=(hb1.cell (p:=⟨w.heap.size,1,none⟩) (by simp)).trans (show _=some (.slice a n c) by simp);have HB1:=Xa (Xj (Xb (Below.refl w.heap.size w) (.cells #[.int .i64 (V:Int),.slice a n c] 25)) hb1);have hzw1:w.heap.size<w1.heap.size:=World.block_lt_of_cell? w1 _ g0;clear hb1 HVF;have HA:=ha;obtain⟨b,o,eb,hbB,hc⟩:=ha.out k hkx;subst eb;obtain⟨pa,pc,ia,ic,e0,e1,⟨e2,e3,e4,e5⟩,hph,hin⟩:=hc;have hbw:b<w.heap.size:=by omega
 have c1:=fun q=>HB1.cell (p:=⟨b,q,none⟩) hbw
 have f0:=(c1 _).trans e0;have f1:=(c1 _).trans e1;have f2:=(c1 _).trans e2;have f3:=(c1 _).trans e3;have f4:=(c1 _).trans e4;have f5:=(c1 _).trans e5;have HPH:=Xa hph;have HIN:=Xa hin;have HLN:=Xa (ho.lens xs[k] (List.getElem_mem hkx));have HDN:=Xa (fun (w6 V':World)(G p z:Nat)(W0:Nat->Nat)(hV:V<=p)(hq:∀v,v<p->(Xf W0 v=true↔Lou xs v k))(ss:List Sd)(hs:ss.map Sd.dat=KV xs[k].instrs.length W0 (plL xs[k]))(h:VL w6 G (xs[k].instrs.length+1) p z ss V')=>h.done ho.out hkx hV hq hs);have HPD:=Xa (ZcT ho.out (List.getElem_mem hkx));have HOP:=Xa (ho.ops xs[k] (List.getElem_mem hkx));have HTK:=Xa (ho.kind xs[k] (List.getElem_mem hkx));obtain⟨Pr,hPr⟩:∃Pr:Nat->List Int,Pr=fun i=>Xk (ptP xs xs[k] V k i):=⟨_,rfl⟩
 obtain⟨X,hX⟩:∃X,X=xs[k]:=⟨_,rfl⟩;rw[<-hPr]at HDN;rw[<-hX]at f0 f1 f2 f3 f4 f5 HPH HIN HLN HDN HPD HOP HTK;have HX:=Xa hX;have HPR:=Xa hPr;clear hX hPr;clear hph hin e0 e1 e2 e3 e4 e5 c1;have hwl:IntKind.i64.wrap ((X.instrs.length:Int)+1)=(X.instrs.length:Int)+1:=by have:=HLN.1;rw[IntKind.wrap_i64];omega
 have hmk:=KG (P:=Tryd.prog) 27 47 (.agg #[.slice none 0 0]) 1 24 Tryd.underlying27 Tryd.infoSetP (X.instrs.length+1) (by have:=HLN.1;omega) (by have:=HLN.1;omega);rw[show((X.instrs.length+1:Nat):Int)=(X.instrs.length:Int)+1 by omega]at hmk;have hk1:¬((k:Int)<0):=by omega
 have hk2:¬((n:Int)<=(k:Int)):=by omega
 gi_wp2
 rename_i K1 HK1 K0 HK0;have hb2:Below w1.heap.size w1 (((w1.alloc (.cells #[.slice pa X.phis.length pc,.slice ia X.instrs.length ic,.int .i64 X.term.kind,.int .i64 X.term.a,.int .i64 X.term.to,.int .i64 X.term.els] 39)).alloc (.cells (madeCells #[.slice none 0 0] (X.instrs.length+1)) 47)).alloc (.cells #[.slice (some ⟨w1.heap.size+1,0,none⟩) (X.instrs.length+1) (X.instrs.length+1)] 27)):=Xb (Xb (Xb (Below.refl _ _) _) _) _;have hz2:(((w1.alloc (.cells #[.slice pa X.phis.length pc,.slice ia X.instrs.length ic,.int .i64 X.term.kind,.int .i64 X.term.a,.int .i64 X.term.to,.int .i64 X.term.els] 39)).alloc (.cells (madeCells #[.slice none 0 0] (X.instrs.length+1)) 47)).alloc (.cells #[.slice (some ⟨w1.heap.size+1,0,none⟩) (X.instrs.length+1) (X.instrs.length+1)] 27)).heap.size=w1.heap.size+3:=by simp
 have hbx:∀q v,#[Value.slice pa X.phis.length pc,.slice ia X.instrs.length ic,.int .i64 X.term.kind,.int .i64 X.term.a,.int .i64 X.term.to,.int .i64 X.term.els][q]?=some v->(((w1.alloc (.cells #[.slice pa X.phis.length pc,.slice ia X.instrs.length ic,.int .i64 X.term.kind,.int .i64 X.term.a,.int .i64 X.term.to,.int .i64 X.term.els] 39)).alloc (.cells (madeCells #[.slice none 0 0] (X.instrs.length+1)) 47)).alloc (.cells #[.slice (some ⟨w1.heap.size+1,0,none⟩) (X.instrs.length+1) (X.instrs.length+1)] 27)).cell? ⟨w1.heap.size,q,none⟩=some v:=fun q v h=>by
  rw[World.cell?_alloc_lt _ _ ⟨w1.heap.size,q,none⟩ (by rw[World.size_alloc,World.size_alloc];show w1.heap.size<_;omega),World.cell?_alloc_lt _ _ ⟨w1.heap.size,q,none⟩ (by rw[World.size_alloc];show w1.heap.size<_;omega),World.cell?_alloc_new];exact h
 have hrw:(((w1.alloc (.cells #[.slice pa X.phis.length pc,.slice ia X.instrs.length ic,.int .i64 X.term.kind,.int .i64 X.term.a,.int .i64 X.term.to,.int .i64 X.term.els] 39)).alloc (.cells (madeCells #[.slice none 0 0] (X.instrs.length+1)) 47)).alloc (.cells #[.slice (some ⟨w1.heap.size+1,0,none⟩) (X.instrs.length+1) (X.instrs.length+1)] 27)).rowIs (w1.heap.size+1) 47 (X.instrs.length+1) (fun _=>.slice none 0 0):=by
  have h:=World.rowIs_made (w1.alloc (.cells #[.slice pa X.phis.length pc,.slice ia X.instrs.length ic,.int .i64 X.term.kind,.int .i64 X.term.a,.int .i64 X.term.to,.int .i64 X.term.els] 39)) (.slice none 0 0) (X.instrs.length+1) 47;rw[World.size_alloc]at h;exact h.of_block (Below.heap_alloc _ _ _ (by simp))
 have hsb:(((w1.alloc (.cells #[.slice pa X.phis.length pc,.slice ia X.instrs.length ic,.int .i64 X.term.kind,.int .i64 X.term.a,.int .i64 X.term.to,.int .i64 X.term.els] 39)).alloc (.cells (madeCells #[.slice none 0 0] (X.instrs.length+1)) 47)).alloc (.cells #[.slice (some ⟨w1.heap.size+1,0,none⟩) (X.instrs.length+1) (X.instrs.length+1)] 27)).cell? ⟨w1.heap.size+1+1,0,none⟩=some (.slice (some ⟨w1.heap.size+1,0,none⟩) (X.instrs.length+1) (X.instrs.length+1)):=by simp[go_sem]
 generalize ((w1.alloc (.cells #[.slice pa X.phis.length pc,.slice ia X.instrs.length ic,.int .i64 X.term.kind,.int .i64 X.term.a,.int .i64 X.term.to,.int .i64 X.term.els] 39)).alloc (.cells (madeCells #[.slice none 0 0] (X.instrs.length+1)) 47)).alloc (.cells #[.slice (some ⟨w1.heap.size+1,0,none⟩) (X.instrs.length+1) (X.instrs.length+1)] 27)=w2 at *;generalize decide ((k:Int)<0)=b1;generalize decide (n<=k)=b2;generalize (b1||b2)=b3;have HB2:=Xa (Xj HB1.out hb2);have HBX:=Xa hbx;have HRW:=Xa hrw;have hfw:w.heap.size<w2.heap.size:=by omega
 have u0:=(hb2.cell (p:=⟨w.heap.size,0,none⟩) hzw1).trans g0;have u1:=(hb2.cell (p:=⟨w.heap.size,1,none⟩) hzw1).trans g1;have x0:=hbx 0 _ rfl;have x1:=hbx 1 _ rfl;have x2:=hbx 2 _ rfl;have x3:=hbx 3 _ rfl;have x4:=hbx 4 _ rfl;have x5:=hbx 5 _ rfl;clear hb2 hbx hrw g0 g1 f0 f1 f2 f3 f4 f5 hmk;have HFL:=Xa (TJ V (some ⟨b,o,none⟩) n c xs L B w2.drew (Xa (HA.keep (HB2.drew.mono hB))) hx (by have:=HB2.drew.size;omega) ho (Xa (hO.keep HB2.drew hO.1)) (Xa (hT.keep HB2.drew hT.1)));refine TD (fun w'=>w'.cell? ⟨w1.heap.size,0,none⟩=some (.slice pa X.phis.length pc)/\w'.cell? ⟨w1.heap.size,1,none⟩=some (.slice ia X.instrs.length ic)/\w'.cell? ⟨w1.heap.size,2,none⟩=some (.int .i64 X.term.kind)/\w'.cell? ⟨w1.heap.size,3,none⟩=some (.int .i64 X.term.a)/\w'.cell? ⟨w1.heap.size,4,none⟩=some (.int .i64 X.term.to)/\w'.cell? ⟨w1.heap.size,5,none⟩=some (.int .i64 X.term.els)/\w'.cell? ⟨w.heap.size,0,none⟩=some (.int .i64 (V:Int))/\w'.cell? ⟨w.heap.size,1,none⟩=some (.slice (some ⟨b,o,none⟩) n c)) (fun hHeld=>?_);refine Yl 0 ?_;refine Yl 1 ?_;refine Yl 4 ?_;refine YA 2 (fun K hK=>?_);go_simp;refine⟨trivial,(callsIn_wide.2 HFL.out).mono ?_⟩;rintro e w3 ⟨Gi,Go,gi,go,ci,WI,WX,rfl,hR⟩;have hR':Below w2.heap.size w2 w3:=⟨hR.low.os,hR.low.tape,hR.low.output,hR.low.size,hR.low.block⟩;obtain⟨Kw,hkw⟩:∃q,q=(V+63) / 64:=⟨_,rfl⟩;rw[<-hkw]at hR;have HR:=Xa hR;have hV:=ho.vle;have hKW:Kw<=100:=by omega
 have hVK:V<=64*Kw:=by omega
 have HLO:=Xa (hR.lou ho.out hx.out k hk);have HLTV:Hid (LtV V Kw (WX k)):=Xa (fun x h1 h2=>((HLO.out x h1).1 h2).val ho.out hkx);have HB3:=Xa hR';have hz3:=hR'.size;have hGo:w.heap.size<Go/\Go<w3.heap.size:=by have h1:w2.heap.size<=Go:=hR.b1.2;have h2:=hR.so.row.lt;exact⟨by omega,h2⟩
 have rgo:=hR.so.row.cell hk;have HWG:=Xa (hR.so.set k hk);have HWD:Hid (XK (WX k)):=Xa (hR.wx k);have hcl:=fun (bb q:Nat)(hb:bb<w2.heap.size)=>hR'.cell (p:=⟨bb,q,none⟩) hb
 have y0:=(hcl w1.heap.size 0 (by omega)).trans x0;have y1:=(hcl w1.heap.size 1 (by omega)).trans x1;have y2:=(hcl w1.heap.size 2 (by omega)).trans x2;have y3:=(hcl w1.heap.size 3 (by omega)).trans x3;have y4:=(hcl w1.heap.size 4 (by omega)).trans x4;have y5:=(hcl w1.heap.size 5 (by omega)).trans x5;have v0:=(hcl w.heap.size 0 hfw).trans u0;have v1:=(hcl w.heap.size 1 hfw).trans u1;have hs3:=(hcl (w1.heap.size+1+1) 0 (by omega)).trans hsb;have HRW3:=Xa (HRW.of_block (hR'.block _ (by show w1.heap.size+1<_;omega)));clear hkw hR hR' hcl x0 x1 x2 x3 x4 x5 u0 u1 hsb HFL hV;refine hK _ _ ⟨y0,y1,y2,y3,y4,y5,v0,v1⟩ (fun hHeld=>?_);clear hK;have hfd:∀(A1 A2:Value)(W:World),(Instr.field 58 (.agg #[A1,A2]) 1).run Tryd.prog W=.ok A2 W:=fun A1 A2 W=>by kernel_rfl
 refine Yl 3 ?_;refine Yl 5 ?_;clear hfd;refine YA 6 (fun K hK=>?_);go_simp;refine hK _ _ (by first | with_reducible exact hHeld | ((try dsimp only);go_keep)) (fun hHeld=>?_);clear hK;refine YA 7 (fun K hK=>?_);go_simp;refine⟨trivial,(Zgb 8 _ _ _ _ _ _ (go k) Kw Kw w3).mono ?_⟩;rintro e w4 ⟨rfl,hw4⟩;have hb4:Below w3.heap.size w3 w4:=by rw[hw4];exact Xb (Xb (Below.refl _ _) _) _
 have hz4:w4.heap.size=w3.heap.size+2:=by rw[hw4];simp
 have hc4:∀q v,#[Value.slice pa X.phis.length pc,.slice ia X.instrs.length ic,.int .i64 X.term.kind,.int .i64 X.term.a,.int .i64 X.term.to,.int .i64 X.term.els][q]?=some v->w4.cell? ⟨w3.heap.size,q,none⟩=some v:=fun q v h=>by
  rw[hw4,World.cell?_alloc_lt _ _ ⟨w3.heap.size,q,none⟩ (by rw[World.size_alloc];show w3.heap.size<_;omega),World.cell?_alloc_new];exact h
 have hso:w4.cell? ⟨w3.heap.size+1,0,none⟩=some (.slice (some ⟨go k,0,none⟩) Kw Kw):=by rw[hw4];simp[go_sem]
 have hcl:=fun (bb q:Nat)(hb:bb<w3.heap.size)=>hb4.cell (p:=⟨bb,q,none⟩) hb
 have z0:=(hcl w1.heap.size 0 (by omega)).trans y0;have z1:=(hcl w1.heap.size 1 (by omega)).trans y1;have z2:=(hcl w1.heap.size 2 (by omega)).trans y2;have z3:=(hcl w1.heap.size 3 (by omega)).trans y3;have z4:=(hcl w1.heap.size 4 (by omega)).trans y4;have z5:=(hcl w1.heap.size 5 (by omega)).trans y5;have t0:=(hcl w.heap.size 0 (by omega)).trans v0;have t1:=(hcl w.heap.size 1 (by omega)).trans v1;have hs4:=(hcl (w1.heap.size+1+1) 0 (by omega)).trans hs3;have HRW4:=Xa (HRW3.of_block (hb4.block _ HRW3.lt));have HW4:=Xa (HWG.of_block (hb4.block _ HWG.lt));have HB4:Hid (Below w.heap.size w w4):=Xa (Xj (Xj HB2.out HB3.out) hb4);have HST:Hid (TQ X L B w3.heap.size w4.heap.size w4.heap.size w4):=Xa ⟨hO.keep HB4.out hO.1,hT.keep HB4.out hT.1,⟨pa,pc,ia,ic,hc4 0 _ rfl,hc4 1 _ rfl,⟨hc4 2 _ rfl,hc4 3 _ rfl,hc4 4 _ rfl,hc4 5 _ rfl⟩,HPH.keepS (fun q _ h2=>HB4.block q (by omega)),HIN.keepS (fun q _ h2=>HB4.block q (by omega))⟩,by omega,by omega,by have:=hO.1;omega,by have:=hT.1;omega,Nat.le_refl _⟩;have HSO:=Xa hso;have HS4:=Xa hs4;have hgt:(2 : Nat)<w.heap.size:=World.block_lt_of_cell? w _ (hTz.out 0 (by decide));have HTZ:Hid (Jz w4):=Xa (hTz.of_block (HB4.block _ hgt));refine hK _ _ ⟨z0,z1,z2,z3,z4,z5,t0,t1⟩ (fun hHeld=>?_);clear hK;refine J7 ?_;clear hHeld z0 z1 z2 z3 z4 z5 t0 t1 y0 y1 y2 y3 y4 y5 v0 v1 hs3 hs4 rgo hso hcl hb4 hc4 hw4;apply HK0;clear HK0
 gi_wp2
 refine ZfB (F:=Fence.wide) (n:=9) rfl (by decide) (gf:=52) (lb:=#[.pointer (some ⟨w3.heap.size+1,0,none⟩),.pointer (some ⟨w3.heap.size,0,none⟩)]) rfl trivial (enters_of Tryd.func52 (by kernel_rfl) rfl) (Zem w4.heap.size (w3.heap.size+1) w3.heap.size L B (go k) Kw Kw V (fun q=>q=w1.heap.size+1) X (WX k) w4 HST HSO.out HW4 HWD hKW hVK (Xa ?m1) (Xa ?m2) (Xa ?m3) (Xa ?m4) (Xa ?m5) HOP HTK.out HLN.1 HLN.2 HPD HLTV) (fun z=>Zfm _ _ _ _ z) (fun h k=>h.trans k) (fun W l o o' h1 h2 h3=>ZG.putObj W l o o' (by omega) h2 h3) (Below.refl _ _) (fun _ _=>rfl)
  (fun z=>VL w4 (w1.heap.size+1) (X.instrs.length+1) (64*Kw) z) (fun _ _ _=>False) (fun z=>VL.own w4 _ _ _ z) (fun _ _ _ _ _ h _ _=>h) (fun _ z s A A' _ h g=>h.turn g) (fun h=>h.elim) ?start
  (fun z p a' U=>∃bp:Nat,a'=⟨#[.agg #[.int .i64 (V:Int),.slice (some ⟨b,o,none⟩) n c],.int .i64 (k:Int),.pointer (some ⟨w.heap.size,0,none⟩),undef,.slice none 0 0,.pointer (some ⟨w1.heap.size,0,none⟩),.pointer (some ⟨w1.heap.size+1+1,0,none⟩),.int .i64 (p.i:Int),.pointer (some ⟨bp,0,none⟩),.agg #[.int .i64 (V:Int),.slice (some ⟨b,o,none⟩) n c],.bool true,.bool false,.bool false,.int .i64 (k:Int),.bool b1,.bool b1,.bool b1,.int .i64 (k:Int),.pointer (some ⟨w.heap.size,1,none⟩),.slice (some ⟨b,o,none⟩) n c,.int .i64 (n:Int),.bool b2,.bool b3,undef,.pointer (some ⟨w.heap.size,1,none⟩),.slice (some ⟨b,o,none⟩) n c,.int .i64 (k:Int),.pointer (some ⟨b,o+k*6,none⟩),.agg #[.slice pa X.phis.length pc,.slice ia X.instrs.length ic,.int .i64 X.term.kind,.int .i64 X.term.a,.int .i64 X.term.to,.int .i64 X.term.els],.pointer (some ⟨w1.heap.size,1,none⟩),.slice ia X.instrs.length ic,.int .i64 (X.instrs.length:Int),.int .i64 ((X.instrs.length:Int)+1),.slice (some ⟨w1.heap.size+1,0,none⟩) (X.instrs.length+1) (X.instrs.length+1),.agg #[.slice pa X.phis.length pc,.slice ia X.instrs.length ic,.int .i64 X.term.kind,.int .i64 X.term.a,.int .i64 X.term.to,.int .i64 X.term.els],.agg #[.int .i64 (V:Int),.slice (some ⟨b,o,none⟩) n c],.agg #[.slice (some ⟨Gi,0,none⟩) n n,.slice (some ⟨Go,0,none⟩) n n],.slice (some ⟨Go,0,none⟩) n n,.int .i64 (k:Int),.pointer (some ⟨Go,k,none⟩),.agg #[.slice (some ⟨go k,0,none⟩) Kw Kw],.func (.func 52) #[] #[.pointer (some ⟨w3.heap.size+1,0,none⟩),.pointer (some ⟨w3.heap.size,0,none⟩)],.int .i64 (p.i:Int),.agg #[.slice (some ⟨z,0,none⟩) Kw p.C],undef,undef,undef,undef,undef,undef,undef],[]⟩/\w4.heap.size<=bp/\U.cell? ⟨bp,0,none⟩=some (.slice (some ⟨z,0,none⟩) Kw p.C)) ?ownA ?assign ?body ?done (fun _ _ _ _ _ _ h _=>h.elim)
 case m1=>intro q h1 h2 e;omega
 case m2=>intro e;omega
 case m3=>intro q h1 e;omega
 case m4=>intro e;have:=hO.1;omega
 case m5=>intro e;have:=hT.1;omega
 case start =>
  intro z U hz1 hz2 hU;exact⟨hU.os,hU.tape,hU.output,hU.size,fun q h1 _=>hU.block q h1,⟨hz1,hz2⟩,fun _=>[],fun _=>.slice none 0 0,⟨by omega,HRW4.of_block (hU.block _ (by omega)),fun i hi=>World.ownsRow_nil _ _ _ _,fun i j _ _ _=>Or.inl rfl⟩,fun i _ e=>(by cases e),fun i _=>Or.inl ⟨rfl,fun q hq=>absurd hq List.not_mem_nil⟩⟩
 case ownA =>
  rintro z p a' _ A U row ⟨bp,e,h1,h2⟩ g q;refine⟨bp,e,h1,(Xc (g.block bp (World.block_lt_of_cell? A _ h2) (fun e2=>?_))).trans h2⟩;obtain⟨ob,h3,h4⟩:=YM h2;obtain⟨_,o2,h5,h6⟩:=q bp e2.symm;rw[show A.heap[bp]?=some ob from h3]at h5;injection h5 with h5;subst h5;rw[h4]at h6;cases h6
 case assign =>
  intro l' z pre p U KK hz hI hP hKK;have HII:=Xa hI;have HPP:=Xa hP;have HKK:=Xa hKK;clear hI hP hKK;unfold ZgX
  gi_wp2
  have hbA:Below U.heap.size U (U.alloc (.cells #[.slice (some ⟨z,0,none⟩) Kw p.C] 62)):=Xb (Below.refl _ _) _;exact HKK.out _ _ ⟨hbA.size,fun k o h1 _=>(hbA.block k (Array.getElem?_eq_some_iff.1 h1).1).trans h1⟩ (ZG.of_below hbA HII.size) (HII.below hbA) (Zch HPP.out hbA) ⟨U.heap.size,rfl,HII.size,by simp[go_sem]⟩
 case body =>
  rintro l' z pre p a' U hz hl' _ hI hP ⟨bp,rfl,hbp,hcp⟩ hlen;have HII:=Xa hI;have HPP:=Xa hP;have sb:=hI.cell (b:=w1.heap.size+1+1) (by omega) HS4.out;have hpi:p.i<X.instrs.length+1:=by have:=hP.1.1;omega
  have hpi':(p.i:Int)<(X.instrs.length:Int)+1:=by omega
  have hzU:=hI.size;have HLS:=Xa (JQ z Kw p.C p.W U.drew (Xa hP.2.2) (Xa hP.2.1.drew) (Xa (HTZ.of_block (hI.fr _ (by omega) (by omega)))) hKW);clear hI hP
  gi_wp2
  refine TD (fun w'=>w'.cell? ⟨w1.heap.size+1+1,0,none⟩=some (.slice (some ⟨w1.heap.size+1,0,none⟩) (X.instrs.length+1) (X.instrs.length+1))/\w'.cell? ⟨bp,0,none⟩=some (.slice (some ⟨z,0,none⟩) Kw p.C)) (fun hHeld=>?_);refine Yl 0 ?_;refine Yl 1 ?_;refine Yl 2 ?_;refine YA 3 (fun K hK=>?_);go_simp;refine⟨trivial,(CallsIn.inRound l' (callsIn_wide.2 HLS.out)).mono ?_⟩;rintro e U5 ⟨u,rfl,hb5',hu⟩;have hb5:Below U.heap.size U U5:=⟨hb5'.os,hb5'.tape,hb5'.output,hb5'.size,hb5'.block⟩;have HPU:=Xa (HII.push (s:=p) hb5 hu);obtain⟨au,cu,eu,_⟩:=Xn (show U5.ownsRow U.heap.size 2 1 u (Xk (Jn p.W (64*Kw))).length ((Xk (Jn p.W (64*Kw))).map (Value.int .i64)) by rw[show(Xk (Jn p.W (64*Kw))).length=(Jn p.W (64*Kw)).length by simp[Xk]];exact hu);generalize (Xk (Jn p.W (64*Kw))).length=lu at eu;subst eu;have HB5:=Xa hb5;have sb5:=(hb5.cell (p:=⟨w1.heap.size+1+1,0,none⟩) (World.block_lt_of_cell? U _ sb)).trans sb;have cp5:=(hb5.cell (p:=⟨bp,0,none⟩) (World.block_lt_of_cell? U _ hcp)).trans hcp;have HI5:=Xa (HII.below hb5);obtain⟨P5,U5',hro5,_,_⟩:=HI5.db;have ce5:=hro5.row.cell hpi;have fe5:=hro5.row.frozen p.i;clear hb5 hb5' hu HLS hro5;refine hK _ _ ⟨sb5,cp5⟩ (fun hHeld=>?_);clear hK;refine Yl 4 ?_;refine Yl 5 ?_;refine YA 6 (fun K hK=>?_);go_simp;refine hK _ _ ⟨(World.cell?_setCell_far U5 ⟨w1.heap.size+1,p.i,none⟩ ⟨w1.heap.size+1+1,0,none⟩ (.slice au lu cu) (by simp)).trans sb5,(World.cell?_setCell_far U5 ⟨w1.heap.size+1,p.i,none⟩ ⟨bp,0,none⟩ (.slice au lu cu) (by show w1.heap.size+1≠bp;omega)).trans cp5⟩ (fun hHeld=>?_);clear hK;refine J7 ?_;clear hHeld
  gi_wp2
  have hkk:ZG w4.heap.size (fun q=>q=w1.heap.size+1) U (U5.setCell ⟨w1.heap.size+1,p.i,none⟩ (.slice au lu cu)):=(ZG.of_below HB5.out hzU).trans (ZD ⟨rfl,rfl,rfl,by simp[World.setCell],fun k _ hk=>Below.heap_setCell _ _ _ _ (fun e=>hk (by rw[e]))⟩ rfl HI5.size);refine⟨⟨hkk.size,fun q ob h1 h2 h3=>?_⟩,hkk,HPU.out⟩;exact(Below.heap_setCell _ _ _ _ (by show q≠w1.heap.size+1;omega)).trans ((HB5.block q (Array.getElem?_eq_some_iff.1 h2).1).trans h2)
 case done =>
  rintro D z ss U hD hz hS' hI hKD;have HII:=Xa hI;have HKD:=Xa hKD;have HS':=Xa hS';have sb:=hI.cell (b:=w1.heap.size+1+1) (by omega) HS4.out;clear hI hKD hS'
  gi_wp2
  have hI2:VL w4 (w1.heap.size+1) (X.instrs.length+1) (64*Kw) z ss (U.putObj D (.deferred none)):=(VL.own w4 _ _ _ z).putObj _ HII.out (by omega) HKD.out rfl;obtain⟨U9,hU9⟩:=HDN.out _ _ _ _ _ (WX k) hVK HLO.out ss HS'.out hI2;refine YX HKD.out ⟨.slice (some ⟨w1.heap.size+1,0,none⟩) (X.instrs.length+1) (X.instrs.length+1),by simp[results,Tryd.results7,go_sem],?_⟩;rw[<-HPR.out,<-HX.out];exact⟨w4.heap.size,w1.heap.size+1,U9,rfl,by omega,⟨hI2.os.trans HB4.os,hI2.tape.trans HB4.tape,hI2.output.trans HB4.output,Nat.le_trans HB4.size hI2.size,fun q hq=>(hI2.fr q (by omega) (by omega)).trans (HB4.block q hq)⟩,hU9⟩
end Go.Proofs.YtbofmlmdgkblkaaDoor
