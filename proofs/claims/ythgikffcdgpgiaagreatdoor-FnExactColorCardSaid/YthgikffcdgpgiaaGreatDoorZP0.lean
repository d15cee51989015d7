import Derived.Test.YthgikffcdgpgiaaGreatDoorSS3
namespace Go.Proofs.YthgikffcdgpgiaaGreatDoor
set_option maxHeartbeats 4000000
set_option maxRecDepth 100000
open Go.RowKit Go.Shelf
section
structure RoS(w:World)(base g m:Nat)(P:Nat->List Int)(U:Nat->Value):Prop where
 lt:g<base
 row:w.rowIs g 62 m U
 own:∀i,i<m->w.ownsRow base 2 1 (U i) (P i).length ((P i).map (Value.int .i64))
 dj:∀i j,i<m->j<m->i≠j->(U i).ownBlock=none\/(U i).ownBlock≠(U j).ownBlock
section
variable {w w' w5 : World} {base g m : Nat} {P P' : Nat -> List Int} {U : Nat -> Value}
theorem RoS.kept(h:RoS w base g m P U){row:Option Nat}(k:w.grownBy w' row)(hr:∀r,row=some r->r≠g/\∀i,i<m->(U i).ownBlock≠some r):RoS w' base g m P U:=by
 refine⟨h.lt,h.row.of_block (k.block _ h.row.lt (fun e=>(hr g e.symm).1 rfl)),fun i hi=>(h.own i hi).kept k ?_,h.dj⟩;cases row with
 | none =>
  cases (U i).ownBlock
  ·exact Or.inl rfl
  ·exact Or.inr (fun e=>by cases e)
 | some r=>exact Or.inr ((hr r rfl).2 i hi)
theorem RoS.below(h:RoS w base g m P U)(k:Below w.heap.size w w'):RoS w' base g m P U :=
 h.kept (row:=none) ⟨k.os,k.tape,k.output,k.size,fun b hb _=>k.block b hb⟩ (fun r e=>by cases e)
theorem RoS.congr(h:RoS w base g m P U)(e:∀i,i<m->P i=P' i):RoS w base g m P' U :=
 ⟨h.lt,h.row,fun i hi=>by rw[<-e i hi];exact h.own i hi,h.dj⟩
theorem RoS.put(h:RoS w base g m P U)(hb:base<=w.heap.size)(k:Below w.heap.size w w5){t:Nat}{p:List Int}{u:Value}(hu:w5.ownsRow w.heap.size 2 1 u p.length (p.map (Value.int .i64))) :
 RoS (w5.setCell ⟨g,t,none⟩ u) base g m (fun i=>if i=t then p else P i) (fun i=>if i=t then u else U i):=by
 have h5:=h.below k;have fresh:∀q,q<m->∀b,u.ownBlock=some b->(U q).ownBlock≠some b:=fun q hq b e1 e2=>by
  have:=(hu.lt b e1).1;have:=((h.own q hq).lt b e2).2;omega
 refine⟨h.lt,(h5.row.set t u).congr (fun i _=>by by_cases e:i=t<;>simp[e]),fun i hi=>?_,fun i j hi hj hij=>?_⟩
 ·by_cases e:i=t
  ·simp only[e,if_true]
   have:w5.ownsRow base 2 1 u p.length (p.map (Value.int .i64)):=by
    refine⟨hu.1,hu.2.imp id ?_⟩;rintro⟨g',cap,cur,e1,e2,e3⟩;exact⟨g',cap,cur,e1,Nat.le_trans hb e2,e3⟩
   exact ownsRow_setCell_below this h.lt _
  ·simp only[e,if_false]
   exact ownsRow_setCell_below (h5.own i hi) h.lt _
 ·by_cases e1:i=t
  ·have e2:¬j=t:=fun e=>hij (e1.trans e.symm)
   simp only[e1,if_true,e2,if_false];cases hq:u.ownBlock with
   | none=>exact Or.inl rfl
   | some b=>exact Or.inr (fun e=>fresh j hj b hq e.symm)
  ·by_cases e2:j=t
   ·simp only[e1,if_false,e2,if_true]
    cases hq:u.ownBlock with
    | none =>
     cases hq2:(U i).ownBlock with
     | none=>exact Or.inl rfl
     | some b=>exact Or.inr (fun e=>by cases e)
    | some b=>exact Or.inr (fresh i hi b hq)
   ·simp only[e1,if_false,e2]
    exact h.dj i j hi hj hij
theorem RoS.ints(h:RoS w base g m P U){L:Nat}(hL:L<=g):XF w L w.heap.size (some ⟨g,0,none⟩) ((List.range m).map P):=fun i hi=>by
 simp only[List.length_map,List.length_range]at hi;obtain⟨a,c,hv,ha⟩:=Xj (h.own i hi);refine⟨g,0,rfl,⟨hL,h.row.lt⟩,a,c,?_,?_⟩
 ·simp only[List.getElem_map,List.getElem_range,Nat.zero_add]
  rw[h.row.cell hi,hv]
 ·simp only[List.getElem_map,List.getElem_range]
  exact ha.mono (by have:=h.lt;omega) (Nat.le_refl _)
end
structure PtI(w6:World)(G m p z:Nat)(pre:List Sd)(V:World):Prop where
 os:V.os=w6.os
 tape:V.tape=w6.tape
 output:V.output=w6.output
 size:w6.heap.size<=V.heap.size
 fr:∀q,q<w6.heap.size->q≠G->V.heap[q]?=w6.heap[q]?
 zl:w6.heap.size<=z/\z<V.heap.size
 db:∃P U,RoS V w6.heap.size G m P U/\(∀i,i<m->(U i).ownBlock≠some z)/\∀i,i<m->(P i=[]/\∀q∈pre,q.i≠i)\/∃q∈pre,q.i=i/\P i=Xh (lsN q.W p)
section
variable {w6 V V' V5 : World} {G m p z : Nat} {pre : List Sd}
theorem PtI.row(h:PtI w6 G m p z pre V){r:Nat}(hr:w6.heap.size<=r)(k:V.grownBy V' (some r))(hn:∀P U,RoS V w6.heap.size G m P U->(∀i,i<m->(U i).ownBlock≠some z)->∀i,i<m->(U i).ownBlock≠some r):PtI w6 G m p z pre V':=by
 obtain⟨P,U,h1,h2,h3⟩:=h.db;have hl:=h1.lt;exact⟨k.os.trans h.os,k.tape.trans h.tape,k.output.trans h.output,Nat.le_trans h.size k.size,fun q q1 q2=>(k.block q (by have:=h.size;omega) (fun e=>by injection e with e;omega)).trans (h.fr q q1 q2),⟨h.zl.1,Nat.lt_of_lt_of_le h.zl.2 k.size⟩,P,U,h1.kept k (fun q e=>by injection e with e;subst e;exact⟨oM,hn P U h1 h2⟩),h2,h3⟩
theorem PtI.below(h:PtI w6 G m p z pre V)(k:Below V.heap.size V V'):PtI w6 G m p z pre V':=by
 obtain⟨P,U,h1,h2,h3⟩:=h.db;exact⟨k.os.trans h.os,k.tape.trans h.tape,k.output.trans h.output,Nat.le_trans h.size k.size,fun q q1 q2=>(k.block q (by have:=h.size;omega)).trans (h.fr q q1 q2),⟨h.zl.1,Nat.lt_of_lt_of_le h.zl.2 k.size⟩,P,U,h1.below k,h2,h3⟩
theorem PtI.turn(h:PtI w6 G m p z pre V)(k:V.grownBy V' (some z)):PtI w6 G m p z pre V':=h.row h.zl.1 k (fun _ _ _ h2=>h2)
theorem PtI.own(w6:World)(G m p z:Nat):OwnFrom w6.heap.size (PtI w6 G m p z):=fun pre V V' row h k q=>by
 cases row with
 | none=>exact h.below ⟨k.os,k.tape,k.output,k.size,fun b hb=>k.block b hb (fun e=>by cases e)⟩
 | some r =>
  obtain⟨h1,o,h2,h3⟩:=q r rfl;refine h.row h1 k (fun P U hU _ i hi e=>?_);rcases(hU.own i hi).2 with⟨e1,_⟩ | ⟨g,cap,cur,e1,_,h4,_⟩
  ·rw[e1]at e;cases e
  ·rw[e1]at e
   injection e with e;have e:g=r:=e;subst e;rw[h2]at h4;injection h4 with h4;subst h4;cases h3
theorem PtI.push(h:PtI w6 G m p z pre V){s:Sd}(k:Below V.heap.size V V5){u:Value}(hu:V5.ownsRow V.heap.size 2 1 u (lsN s.W p).length ((Xh (lsN s.W p)).map (Value.int .i64))):PtI w6 G m p z (pre++[s]) (V5.setCell ⟨G,s.i,none⟩ u):=by
 obtain⟨P,U,h1,h2,h3⟩:=h.db;have hl:=h1.lt;have h5:=h.below k;rw[show(lsN s.W p).length=(Xh (lsN s.W p)).length by simp[Xh]]at hu;refine⟨h5.os,h5.tape,h5.output,by rw[Xd];exact h5.size,fun q q1 q2=>(Below.heap_setCell _ _ _ _ q2).trans (h5.fr q q1 q2),⟨h5.zl.1,by rw[Xd];exact h5.zl.2⟩,_,_,h1.put h.size k hu,fun i hi=>?_,fun i hi=>?_⟩
 ·by_cases e:i=s.i
  ·simp only[e,if_true]
   intro e2;have:=(hu.lt z e2).1;have:=h.zl.2;omega
  ·simp only[e,if_false]
   exact h2 i hi
 ·by_cases e:i=s.i
  ·simp only[e,if_true]
   exact Or.inr ⟨s,sP,rfl,rfl⟩
  ·simp only[e,if_false]
   rcases h3 i hi with⟨e1,e2⟩ | ⟨q,q1,q2,q3⟩
   ·refine Or.inl ⟨e1,fun q hq=>?_⟩
    rcases List.mem_append.1 hq with hq | hq
    ·exact e2 q hq
    ·rw[List.mem_singleton.1 hq]
     exact fun e3=>e e3.symm
   ·exact Or.inr ⟨q,List.mem_append_left _ q1,q2,q3⟩
theorem PtI.cell(h:PtI w6 G m p z pre V){b o:Nat}{v:Value}(hb:b≠G)(hc:w6.cell? ⟨b,o,none⟩=some v):V.cell? ⟨b,o,none⟩=some v:=(Xc (h.fr b (World.block_lt_of_cell? w6 _ hc) hb)).trans hc
end
end
section
attribute [local go_sem] Oper.semAt_some
theorem FlR.lou{V:Nat}{w w':World}{n Kw:Nat}{xs:List Xi}{Gi Go:Nat}{gi go ci:Nat->Nat}{WI WX:Nat->Nat->Nat}(h:FlR w w' n Kw xs Gi Go gi go ci WI WX)(ho:ZZ V xs)(hx:n=xs.length):∀b,b<n->∀x,x<64*Kw->(Xf (WX b) x=true↔VP xs x b):=fun b hb x hx'=>by
 obtain⟨I,T,W0,ord,q1,q2,q3,q4,q5,q6⟩:=h.inn;have hLI:∀b,b<n->∀x,x<64*Kw->(Xf (WI b) x=true↔Lin xs x b):=fun b hb x hx'=>(q5 b hb x hx').trans (Zie ho q1 q2 q3 (ord:=(·∈ord)) q4 oM)
 have hbx:b<xs.length:=oM;rw[q6 b hb x,q3 b hbx,<-Jl ho hbx];constructor
 ·rintro(h | ⟨t,ht,h⟩)
  ·exact Or.inl h
  ·exact Or.inr ⟨t,ht,(hLI t (by have:=ho.okf.tg _ hbx _ ht;omega) x hx').1 h⟩
 ·rintro(h | ⟨t,ht,h⟩)
  ·exact Or.inl h
  ·exact Or.inr ⟨t,ht,(hLI t (by have:=ho.okf.tg _ hbx _ ht;omega) x hx').2 h⟩
theorem Zho(x:Xi)(W0:Nat->Nat){i:Nat}(hi:i<=x.instrs.length):∃W,(i,W)∈Kh x.instrs.length W0 (plL x):=by
 rw[Zdv];cases i with
 | zero=>exact⟨_,List.mem_append_right _ (List.mem_singleton.2 rfl)⟩
 | succ j =>
  refine⟨_,List.mem_append_left _ (List.mem_map.2 ⟨⟨j,hi⟩,?_,rfl⟩)⟩;unfold T4;rw[List.take_of_length_le sP];exact List.mem_reverse.2 (List.mem_finRange _)
theorem PtI.done{w6 V':World}{G p z Vn k:Nat}{xs:List Xi}(ho:ZZ Vn xs)(hk:k<xs.length){W0:Nat->Nat}(hV:Vn<=p)(hq:∀v,v<p->(Xf W0 v=true↔VP xs v k)){ss:List Sd}(hs:ss.map Sd.dat=Kh xs[k].instrs.length W0 (plL xs[k]))(h:PtI w6 G (xs[k].instrs.length+1) p z ss V') :
 ∃U,RoS V' w6.heap.size G (xs[k].instrs.length+1) (fun i=>Xh (ptP xs xs[k] Vn k i)) U:=by
 obtain⟨P,U,h1,_,h3⟩:=h.db;refine⟨U,h1.congr (fun i hi=>?_)⟩;rcases h3 i hi with⟨_,e⟩ | ⟨q,q1,q2,q3⟩
 ·obtain⟨W,hW⟩:=Zho xs[k] W0 (i:=i) oM
  rw[<-hs]at hW;obtain⟨q,q1,q2⟩:=List.mem_map.1 hW;exact absurd (congrArg Prod.fst q2) (e q q1)
 ·rw[q3]
  have hm:(i,q.W)∈Kh xs[k].instrs.length W0 (plL xs[k]):=by
   rw[<-hs,<-q2];exact List.mem_map.2 ⟨q,q1,rfl⟩
  rw[Zhj ho hk hV hq hm]
end
section
attribute [local go_sem] Oper.semAt_some
structure CoI(w6:World)(gT Kr:Nat)(R:Nat->Prop)(U:World):Prop where
 os:U.os=w6.os
 tape:U.tape=w6.tape
 output:U.output=w6.output
 size:w6.heap.size<=U.heap.size
 gl:gT<w6.heap.size
 fr:∀q,q<w6.heap.size->q≠gT->U.heap[q]?=w6.heap[q]?
 st:∃T:Nat->Nat,WsAt U gT Kr Kr T/\Xw T/\∀c,c<64*Kr->(Xf T c=true↔R c)
section
variable {w6 U U' : World} {gT Kr : Nat} {R R' : Nat -> Prop}
theorem CoI.far(h:CoI w6 gT Kr R U)(k:Below w6.heap.size U U'):CoI w6 gT Kr R U':=by
 obtain⟨T,h1,h2⟩:=h.st;exact⟨k.os.trans h.os,k.tape.trans h.tape,k.output.trans h.output,Nat.le_trans h.size k.size,h.gl,fun q q1 q2=>(k.block q q1).trans (h.fr q q1 q2),T,h1.of_block (k.block _ h.gl),h2⟩
theorem CoI.congr(h:CoI w6 gT Kr R U)(e:∀c,c<64*Kr->(R c↔R' c)):CoI w6 gT Kr R' U:=by
 obtain⟨T,h1,h2,h3⟩:=h.st;exact⟨h.os,h.tape,h.output,h.size,h.gl,h.fr,T,h1,h2,fun c hc=>(h3 c hc).trans (e c hc)⟩
theorem CoI.own(w6:World)(gT Kr:Nat){α:Type}(R:α->Nat->Prop):OwnFrom w6.heap.size (fun s U=>CoI w6 gT Kr (R s) U):=fun s A U row h k q=>by
 have:=h.size;exact h.far ⟨k.os,k.tape,k.output,k.size,fun b hb=>k.block b oM (fun e=>by have:=(q b e.symm).1;omega)⟩
theorem CoI.cell(h:CoI w6 gT Kr R U){b o:Nat}{v:Value}(hb:b≠gT)(hc:w6.cell? ⟨b,o,none⟩=some v):U.cell? ⟨b,o,none⟩=some v:=(Xc (h.fr b (World.block_lt_of_cell? w6 _ hc) hb)).trans hc
theorem CoI.turn(h:CoI w6 gT Kr R U){X:Nat->Nat}(k:U.grownBy U' (some gT))(hX:WsAt U' gT Kr Kr X)(hd:Xw X)(hR:∀c,c<64*Kr->(Xf X c=true↔R' c)):CoI w6 gT Kr R' U':=by
 have hs:=h.size;exact⟨k.os.trans h.os,k.tape.trans h.tape,k.output.trans h.output,Nat.le_trans h.size k.size,h.gl,fun q q1 q2=>(k.block q oM (fun e=>q2 (by injection e))).trans (h.fr q q1 q2),X,hX,hd,hR⟩
end
def Zd8(cs:List Int)(l:List Nat)(c:Nat):Prop:=∃v∈l,cs[v]?=some (c:Int)
theorem Wv(z Kw C:Nat)(W:Nat->Nat)(a:Option Addr)(nc cc room Kr:Nat)(cs:List Int)(L B:Nat)(w:World)(hz:Hid (WsAt w z Kw C W))(hwd:Hid (Xw W))(ha:Hid (Xg w L B a cs))(hx:Hid (nc=cs.length))(hB:B<=w.heap.size)(hT:Hid (Zs w))(hK:Kw<=100)(hlt:Hid (WJ nc Kw W))(hr:room<=2000)(hkr:Hid (Kr=(room+63) / 64))(hc:Hid (∀c∈cs,c=-1\/0<=c/\c<room)) :
 Calls Tryz.prog 35 #[.agg #[.slice (some ⟨z,0,none⟩) Kw C],.slice a nc cc,.int .i64 (room:Int)] w fun e w'=>∃g T,e=.returned (.agg #[.slice (some ⟨g,0,none⟩) Kr Kr])/\w.heap.size<=g/\Below w.heap.size w w'/\WsAt w' g Kr Kr T/\Xw T/\∀c,c<64*Kr->(Xf T c=true↔Zd8 cs (lsN W (64*Kw)) c):=by
 have HN:=Xa (fun W=>Vc room W oM);simp only[<-hkr.out]at HN;have hKr:Kr<=100:=by have:=hkr.out;omega
 have hrK:room<=64*Kr:=by have:=hkr.out;omega
 refine(callsIn_wide (n:=8)).1 ?_;refine callsIn_of_wp_marks Tryz.func35 rfl trivial ?_ rfl;simp only[Tryz.ntmps35,List.size_toArray,List.length_cons,List.length_nil,Nat.reduceAdd,Nat.reduceSub,Array.replicate_succ,Array.replicate_zero,List.push_toArray,List.append_toArray,List.nil_append,List.cons_append]
 gi_wp2
 have hzl:=hz.lt;have HB0:Hid (Below w.heap.size w (((w.alloc (.cells #[.slice (some ⟨z,0,none⟩) Kw C] 75)).alloc (.cells #[.slice a nc cc] 26)).alloc (.cells #[.slice none 0 0] 84))):=Xa (Xb (Xb (Xb (Below.refl _ _) _) _) _);have hs0:w.heap.size+3<=(((w.alloc (.cells #[.slice (some ⟨z,0,none⟩) Kw C] 75)).alloc (.cells #[.slice a nc cc] 26)).alloc (.cells #[.slice none 0 0] 84)).heap.size:=sP;have c3:(((w.alloc (.cells #[.slice (some ⟨z,0,none⟩) Kw C] 75)).alloc (.cells #[.slice a nc cc] 26)).alloc (.cells #[.slice none 0 0] 84)).cell? ⟨w.heap.size,0,none⟩=some (.slice (some ⟨z,0,none⟩) Kw C):=by simp[go_sem]
 have c4:(((w.alloc (.cells #[.slice (some ⟨z,0,none⟩) Kw C] 75)).alloc (.cells #[.slice a nc cc] 26)).alloc (.cells #[.slice none 0 0] 84)).cell? ⟨w.heap.size+1,0,none⟩=some (.slice a nc cc):=by simp[go_sem]
 have HR6:Hid ((((w.alloc (.cells #[.slice (some ⟨z,0,none⟩) Kw C] 75)).alloc (.cells #[.slice a nc cc] 26)).alloc (.cells #[.slice none 0 0] 84)).rowIs (w.heap.size+2) 84 1 (fun _=>.slice none 0 0)):=Xa (by
  have h:=World.rowIs_alloc ((w.alloc (.cells #[.slice (some ⟨z,0,none⟩) Kw C] 75)).alloc (.cells #[.slice a nc cc] 26)) #[.slice none 0 0] 84 (fun _=>.slice none 0 0) (fun i hi=>by match i,hi with | 0,_=>rfl)
  rw[World.size_alloc,World.size_alloc]at h;exact h)
 generalize ((w.alloc (.cells #[.slice (some ⟨z,0,none⟩) Kw C] 75)).alloc (.cells #[.slice a nc cc] 26)).alloc (.cells #[.slice none 0 0] 84)=w0 at *;refine⟨trivial,(callsIn_wide.2 (HN.out w0)).mono ?_⟩;rintro e w1 ⟨gT,rfl,hgT,hb1,hr1⟩;have hs1:=hb1.size;have d3:=(XD hb1 oM).trans c3;have d4:=(XD hb1 oM).trans c4;have HB1:=Xa (Xe HB0.out hb1);have HR61:=Xa (HR6.of_block (hb1.block _ oM));have HT1:=Xa hr1;have hgl1:=hr1.lt;have e3:∀ob,(w1.alloc ob).cell? ⟨w.heap.size,0,none⟩=some (.slice (some ⟨z,0,none⟩) Kw C):=fun ob=>(World.cell?_alloc_lt w1 ob ⟨w.heap.size,0,none⟩ (by show w.heap.size<_;omega)).trans d3
 clear hb1 hr1 c3 c4 HN HR6 HB0
 gi_wp2
 have hbA:Below w1.heap.size w1 (w1.alloc (.cells #[.slice (some ⟨gT,0,none⟩) Kr Kr] 84)):=Xb (Below.refl _ _) _;have hsA:w1.heap.size+1<=(w1.alloc (.cells #[.slice (some ⟨gT,0,none⟩) Kr Kr] 84)).heap.size:=sP;have c7:(w1.alloc (.cells #[.slice (some ⟨gT,0,none⟩) Kr Kr] 84)).cell? ⟨w1.heap.size,0,none⟩=some (.slice (some ⟨gT,0,none⟩) Kr Kr):=by simp[go_sem]
 generalize w1.alloc (.cells #[.slice (some ⟨gT,0,none⟩) Kr Kr] 84)=w2 at *;clear e3;refine⟨trivial,(Zid 7 (some ⟨z,0,none⟩) Kw C w2).mono ?_⟩;rintro e w3 ⟨rfl,hw3⟩;have hb3:Below w2.heap.size w2 w3:=by rw[hw3];exact Xb (Below.refl _ _) _
 have hs3:w2.heap.size+1<=w3.heap.size:=by rw[hw3,World.size_alloc];exact Nat.le_refl _
 have cs3:w3.cell? ⟨w2.heap.size,0,none⟩=some (.slice (some ⟨z,0,none⟩) Kw C):=by rw[hw3];simp[go_sem]
 have HW13:Hid (Below w1.heap.size w1 w3):=Xa (Xe hbA hb3);have HW3:Hid (Below w.heap.size w w3):=Xa (Xe HB1.out HW13.out);have f4:=(XD HW13.out oM).trans d4;have f7:=(XD hb3 oM).trans c7;have HR63:=Xa (HR61.of_block (HW13.block _ oM));have HT3:=Xa (HT1.of_block (HW13.block _ oM));have hgt:(1 : Nat)<w.heap.size:=World.block_lt_of_cell? w _ (hT.out 0 vZ);have HZ3:Hid (WsAt w3 z Kw C W):=Xa (hz.of_block (HW3.block z hzl));have HTz3:Hid (Zs w3):=Xa (hT.of_block (HW3.block _ hgt));have HF4:=Xa f4;have HF7:=Xa f7;have HCS3:=Xa cs3;clear hbA hb3 hw3 c7 d3 d4 f4 f7 cs3 HB1 HR61 HT1
 gi_wp2
 have HI3:Hid (CoI w3 gT Kr (Zd8 cs []) w3):=Xa ⟨rfl,rfl,rfl,Nat.le_refl _,by have:=HW13.size;omega,fun _ _ _=>rfl,fun _=>0,⟨Nat.le_refl _,fun _=>.slice none 0 0,HT3.congr (fun i hi=>by rw[if_pos hi])⟩,Jw,fun c _=>⟨fun h=>by simp[Xf]at h,fun h=>by obtain⟨v,h1,_⟩:=h;simp at h1⟩⟩;have hz13:=HW13.size;refine Zfb (F:=Fence.wide) (n:=8) rfl vZ (gf:=116) (lb:=#[.pointer (some ⟨w2.heap.size,0,none⟩)]) rfl trivial (enters_of Tryz.func116 kR rfl) (ZeY w2.heap.size z Kw C W (fun q=>q=gT) w3 HCS3.out HZ3 hwd HTz3 hK (Xa oM) (Xa oM)) (fun _ _ _ _ h _ _=>h) (fun h k=>h.trans k) (fun W l o o' h1 h2 h3=>Zy.putObj W l o o' h1 h2 h3) (Below.refl _ _) (fun _=>rfl)
  (fun pre U=>CoI w3 gT Kr (Zd8 cs pre) U) (CoI.own w3 gT Kr (Zd8 cs)) HI3.out
  (fun x a' U=>a'=⟨#[.agg #[.slice (some ⟨z,0,none⟩) Kw C],.slice a nc cc,.int .i64 (room:Int),.pointer (some ⟨w.heap.size,0,none⟩),.pointer (some ⟨w.heap.size+1,0,none⟩),undef,.pointer (some ⟨w.heap.size+1+1,0,none⟩),.pointer (some ⟨w1.heap.size,0,none⟩),.int .i64 (x:Int),.int .i64 (room:Int),.agg #[.slice (some ⟨gT,0,none⟩) Kr Kr],.agg #[.slice (some ⟨z,0,none⟩) Kw C],.func (.func 116) #[] #[.pointer (some ⟨w2.heap.size,0,none⟩)],.int .i64 (x:Int),undef,undef,undef,undef,undef,undef,undef,undef,undef,undef,undef,undef,undef],[]⟩) (fun _ _ _ _ _ _ h _ _=>h) ?assign ?body ?done
 case assign =>
  intro l pre x U K hI hP hKK;have HII:=Xa hI;have HKK:=Xa hKK;clear hI hKK
  gi_wp2
  exact HKK.out _ _ (KeepsOthers.refl _) (Zy.refl _) HII.out hP rfl
 case body =>
  rintro l pre x a' U hI hP rfl hlen;have HII:=Xa hI;have hx2:=WM.1 hP;have hxV:x<nc:=hlt.out x hx2.1 hx2.2;have hxl:x<cs.length:=by rw[<-hx.out];exact hxV
  obtain⟨b,o,rfl,hb,e0w⟩:=ha.out x hxl;have e0:U.cell? ⟨b,o+x,none⟩=some (.int .i64 cs[x]):=hI.cell oM ((XD HW3.out oM).trans e0w);have e4:=hI.cell oM HF4.out;have e7:=hI.cell oM HF7.out;have hcx:=hc.out _ (List.getElem_mem hxl);have HG:Hid (cs[x]?=some cs[x]):=Xa (List.getElem?_eq_getElem hxl);have hsU:=hI.size;generalize cs[x]=y at *;have hxi:(x:Int)<(nc:Int):=oM;clear hI e0w hlen;by_cases hy:y=-1
  ·subst hy
   have hy1:((-1:Int) != -1)=false:=vZ
   gi_wp2
   refine⟨KeepsOthers.refl _,Zy.refl _,HII.congr (fun c _=>?_)⟩;constructor
   ·rintro⟨v,h1,h2⟩;exact⟨v,List.mem_append_left _ h1,h2⟩
   ·rintro⟨v,h1,h2⟩
    rcases List.mem_append.1 h1 with h3 | h3
    ·exact⟨v,h3,h2⟩
    ·rw[List.mem_singleton.1 h3,HG.out]at h2
     injection h2 with h2;omega
  ·have hy1:(y != -1)=true:=by rw[bne_iff_ne];exact hy
   obtain⟨t,rfl⟩:=Int.eq_ofNat_of_zero_le (show 0<=y by omega);have htK:t<64*Kr:=oM;obtain⟨X,hX,hXd,hXR⟩:=HII.st;have HX:=Xa hX;have HXd:=Xa hXd;have HXR:=Xa hXR;have HAD:Hid (∀W1,Below U.heap.size U W1->U.heap.size+1<=W1.heap.size->W1.cell? ⟨U.heap.size,0,none⟩=some (.int .i64 (t:Int))->Calls Tryz.prog 69 #[.agg #[.slice (some ⟨gT,0,none⟩) Kr Kr],.slice (some ⟨U.heap.size,0,none⟩) 1 1] W1 fun e w'=>e=.returned (.tuple #[])/\W1.grownBy w' (some gT)/\WsAt w' gT Kr Kr (addsN X [t])):=Xa (fun W1 h1 h2 h3=>by
    refine Zbu gT Kr Kr 1 1 X (some ⟨U.heap.size,0,none⟩) [t] U.heap.size (U.heap.size+1) W1 (Xa (fun i hi=>?_)) (Xa rfl) vZ (Xa (fun z hz=>by rw[List.mem_singleton.1 hz];exact htK)) oM (Xa hXd) (Xa (hX.of_block (h1.block _ hX.lt))) h2 (by have:=HII.gl;omega);have hi0:i=0:=by simp at hi;exact hi
    subst hi0;exact⟨U.heap.size,0,rfl,⟨Nat.le_refl _,oM⟩,h3⟩)
   clear hX hXd hXR
   gi_wp2
   refine TP (fun w'=>w'.cell? ⟨w1.heap.size,0,none⟩=some (.slice (some ⟨gT,0,none⟩) Kr Kr)/\w'.cell? ⟨w.heap.size+1,0,none⟩=some (.slice (some ⟨b,o,none⟩) nc cc)/\w'.cell? ⟨b,o+x,none⟩=some (.int .i64 (t:Int))) (fun hHeld=>?_);refine Yh 0 ?_;refine Yh 1 ?_;refine Yh 2 ?_;refine Yh 3 ?_;refine Yh 4 ?_;refine Z8 5 (fun K hK=>?_);go_simp;have hbA:Below U.heap.size U (U.alloc (.cells #[.int .i64 (t:Int)] 87)).drew:=(Xb (Below.refl _ _) _).drew;have hzA:U.heap.size+1<=(U.alloc (.cells #[.int .i64 (t:Int)] 87)).drew.heap.size:=by simp[World.drew]
   have hcA:(U.alloc (.cells #[.int .i64 (t:Int)] 87)).drew.cell? ⟨U.heap.size,0,none⟩=some (.int .i64 (t:Int)):=by simp[go_sem]
   generalize (U.alloc (.cells #[.int .i64 (t:Int)] 87)).drew=W1 at *;have HBA:=Xa hbA;have g0:=(hbA.cell (p:=⟨b,o+x,none⟩) (World.block_lt_of_cell? U _ e0)).trans e0;have g4:=(hbA.cell (p:=⟨w.heap.size+1,0,none⟩) (World.block_lt_of_cell? U _ e4)).trans e4;have g7:=(hbA.cell (p:=⟨w1.heap.size,0,none⟩) (World.block_lt_of_cell? U _ e7)).trans e7;have HCA:=Xa (HAD.out W1 hbA hzA hcA);clear HAD hbA hcA e0 e4 e7;refine hK _ _ ⟨g7,g4,g0⟩ (fun hHeld=>?_);clear hK;refine Z8 6 (fun K hK=>?_);go_simp;refine⟨trivial,(CallsIn.inRound l (callsIn_wide.2 HCA.out)).mono ?_⟩;rintro e U3 ⟨rfl,k3,hw3⟩;have q3:∀(b' o':Nat)(v:Value),b'≠gT->W1.cell? ⟨b',o',none⟩=some v->U3.cell? ⟨b',o',none⟩=some v:=fun b' o' v h1 h2=>(Xc (k3.block b' (World.block_lt_of_cell? W1 _ h2) (fun e=>h1 (by injection e)))).trans h2
   have HK3:Hid (U.grownBy U3 (some gT)):=Xa ⟨k3.os.trans HBA.os,k3.tape.trans HBA.tape,k3.output.trans HBA.output,Nat.le_trans HBA.size k3.size,fun q q1 q2=>(k3.block q (Nat.lt_of_lt_of_le q1 HBA.size) q2).trans (HBA.block q q1)⟩;have HW3':=Xa hw3;refine hK _ _ ⟨q3 _ _ _ oM g7,q3 _ _ _ oM g4,q3 _ _ _ oM g0⟩ (fun hHeld=>?_);clear hK k3 hw3 q3 g0 g4 g7 HCA
   try simp only[Act.put,xA,xB,xC,xD,xE,xF]
   refine KN ?_;clear hHeld
   gi_wp2
   refine⟨Zp HK3.out HX.obj,YX HK3.out rfl hsU,HII.turn HK3.out HW3'.out (YE [t] HXd.out) (fun c hc'=>?_)⟩;rw[Y4,Bool.or_eq_true,HXR.out c hc',decide_eq_true_eq,List.mem_singleton];constructor
   ·rintro(h | ⟨v,h1,h2⟩)
    ·exact⟨x,List.mem_append_right _ (List.mem_singleton.2 rfl),by rw[HG.out,h]⟩
    ·exact⟨v,List.mem_append_left _ h1,h2⟩
   ·rintro⟨v,h1,h2⟩
    rcases List.mem_append.1 h1 with h3 | h3
    ·exact Or.inr ⟨v,h3,h2⟩
    ·rw[List.mem_singleton.1 h3,HG.out]at h2
     injection h2 with h2;exact Or.inl (by have h4:(t:Int)=(c:Int):=h2;omega)
 case done =>
  rintro D xs U hD rfl hI hKD;have HII:=Xa hI;have HKD:=Xa hKD;have h7:=hI.cell oM HF7.out;have h6r:=HR63.of_block (hI.fr (w.heap.size+2) oM oM);have h6:=h6r.cell (i:=0) vZ;have h6f:=h6r.frozen 0;have hzI:=hI.size;clear hI hKD;have hDl:D<U.heap.size:=(Array.getElem?_eq_some_iff.1 HKD.out).1
  gi_wp2
  have HKD2:Hid ((U.setCell ⟨w.heap.size+2,0,none⟩ (.slice (some ⟨gT,0,none⟩) Kr Kr)).heap[D]?=some (.deferred (some []))):=Xa ((Below.heap_setCell _ _ _ _ (by show D≠w.heap.size+2;omega)).trans HKD.out);have hres:((U.setCell ⟨w.heap.size+2,0,none⟩ (.slice (some ⟨gT,0,none⟩) Kr Kr)).putObj D (.deferred none)).cell? ⟨w.heap.size+2,0,none⟩=some (.slice (some ⟨gT,0,none⟩) Kr Kr):=by
   refine(World.cell?_of_block (a:=⟨w.heap.size+2,0,none⟩) (World.putObj_heap_other (show w.heap.size+2≠D by omega))).trans ?_;have:=(h6r.set 0 (.slice (some ⟨gT,0,none⟩) Kr Kr)).cell (i:=0) vZ;simpa using this
  refine Zj HKD2.out ⟨.agg #[.slice (some ⟨gT,0,none⟩) Kr Kr],by simp[results,Tryz.results35,go_sem,hres],?_⟩;have hg1:∀q,q≠w.heap.size+2->q≠D->((U.setCell ⟨w.heap.size+2,0,none⟩ (.slice (some ⟨gT,0,none⟩) Kr Kr)).putObj D (.deferred none)).heap[q]?=U.heap[q]?:=fun q q1 q2=>(World.putObj_heap_other q2).trans (Below.heap_setCell _ _ _ _ q1)
  obtain⟨X,hX,hXd,hXR⟩:=HII.st;have hgl:=HII.gl;refine⟨gT,X,rfl,oM,⟨HII.os.trans HW3.os,HII.tape.trans HW3.tape,HII.output.trans HW3.output,?_,fun q hq=>(hg1 q oM oM).trans ((HII.fr q oM oM).trans (HW3.block q hq))⟩,hX.of_block (hg1 gT oM oM),hXd,hXR⟩;have hsz:=HW3.size;have hpz:=(grownBy_putObj' (U.setCell ⟨w.heap.size+2,0,none⟩ (.slice (some ⟨gT,0,none⟩) Kr Kr)) D (.deferred none)).size;rw[Xd]at hpz;exact Nat.le_trans hsz (Nat.le_trans hzI hpz)
end
end Go.Proofs.YthgikffcdgpgiaaGreatDoor
