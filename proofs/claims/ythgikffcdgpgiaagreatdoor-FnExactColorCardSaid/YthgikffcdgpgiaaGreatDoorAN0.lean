import Derived.Test.YthgikffcdgpgiaaGreatDoorCH1
namespace Go.Proofs.YthgikffcdgpgiaaGreatDoor
set_option maxHeartbeats 2000000
set_option maxRecDepth 100000
open Go.RowKit
section
theorem Tryz.infoSetI:(Tryz.prog.info? 62).map (fun i=>(i.zero,i.size,i.bytes))=some (some (.agg #[.slice none 0 0]),1,24):=kR
structure FwI(w6 wr:World)(F:Nat)(x2 x3:Value)(U V:Nat->Value)(b1:Nat)(p1:Option Addr)(c1 b2:Nat)(p2:Option Addr)(c2:Nat):Prop where
 e0:wr.cell? ⟨F,0,none⟩=some (.slice p1 b1 c1)
 e1:wr.cell? ⟨F,1,none⟩=some (.slice p2 b2 c2)
 e2:wr.cell? ⟨F,2,none⟩=some x2
 e3:wr.cell? ⟨F,3,none⟩=some x3
 thaw:∀q,wr.frozen? ⟨F,q,none⟩=false
 bel:Below F w6 wr
 lt:F<wr.heap.size
 le:F=w6.heap.size
 o1:wr.ownsRow (F+1) 62 1 (.slice p1 b1 c1) b1 ((List.range b1).map U)
 o2:wr.ownsRow (F+1) 4 1 (.slice p2 b2 c2) b2 ((List.range b2).map V)
 dj:(Value.slice p1 b1 c1).ownBlock=none\/(Value.slice p1 b1 c1).ownBlock≠(Value.slice p2 b2 c2).ownBlock
structure Zgh(w:World)(B n:Nat)(U:Nat->Value)(Pr:Nat->List Int)(V:Nat->Bool)(P:List Int)(Od:List Nat)(g1 c1 g2 c2 g3 g4 c4:Nat):Prop where
 len:P.length=n
 o1:w.ownsRow B 62 1 (.slice (some ⟨g1,0,none⟩) n c1) n ((List.range n).map U)
 o2:w.ownsRow B 4 1 (.slice (some ⟨g2,0,none⟩) n c2) n ((List.range n).map fun z=>.bool (V z))
 o3:w.rowIs g3 2 n (fun z=>.int .i64 (P.getD z 0))
 o4:w.ownsRow B 2 1 (.slice (some ⟨g4,0,none⟩) Od.length c4) Od.length (Yo Od)
 rows:∀i,i<n->w.ownsRow B 2 1 (U i) (Pr i).length ((Pr i).map (Value.int .i64))
 rdj:∀i j,i<n->j<n->i≠j->(U i).ownBlock=none\/(U i).ownBlock≠(U j).ownBlock
 gs:B<=g3/\g1≠g2/\g1≠g3/\g1≠g4/\g2≠g3/\g2≠g4/\g3≠g4
 out:∀i,i<n->∀k,(U i).ownBlock=some k->k≠g1/\k≠g2/\k≠g3/\k≠g4
theorem UD{w w':World}{B B' t s n:Nat}{v:Value}{cs:List Value}(h:w.ownsRow B t s v n cs)(hB:B'<=B)(hk:∀k,v.ownBlock=some k->w'.heap[k]?=w.heap[k]?):w'.ownsRow B' t s v n cs:=by
 obtain⟨h1,h2 | ⟨g,cap,cur,e,hg,hh,hr⟩⟩:=h
 ·exact⟨h1,Or.inl h2⟩
 ·exact⟨h1,Or.inr ⟨g,cap,cur,e,Nat.le_trans hB hg,(hk g (by rw[e];rfl)).trans hh,hr⟩⟩
theorem ZiW{w:World}{R F t:Nat}{f:Nat->Value}(hR:w.rowIs R t 4 f)(hne:R≠F)(x z0 z1 z2 z3:Value)(wE:World)(e:wE=((((w.setCell ⟨F,3,none⟩ x).setCell ⟨R,0,none⟩ z0).setCell ⟨R,1,none⟩ z1).setCell ⟨R,2,none⟩ z2).setCell ⟨R,3,none⟩ z3) :
 wE.cell? ⟨R,0,none⟩=some z0/\wE.cell? ⟨R,1,none⟩=some z1/\wE.cell? ⟨R,2,none⟩=some z2/\wE.cell? ⟨R,3,none⟩=some z3/\(∀k,k≠F->k≠R->wE.heap[k]?=w.heap[k]?)/\wE.heap.size=w.heap.size/\wE.os=w.os/\wE.tape=w.tape/\wE.output=w.output:=by
 have h:=((((hR.setOther (a:=⟨F,3,none⟩) hne x).set 0 z0).set 1 z1).set 2 z2).set 3 z3;rw[<-e]at h;refine⟨?_,?_,?_,?_,fun k h1 h2=>?_,?_,?_,?_,?_⟩
 ·rw[h.cell vZ];simp
 ·rw[h.cell vZ];simp
 ·rw[h.cell vZ];simp
 ·rw[h.cell vZ];simp
 ·rw[e,Below.heap_setCell _ _ _ _ h2,Below.heap_setCell _ _ _ _ h2,Below.heap_setCell _ _ _ _ h2,Below.heap_setCell _ _ _ _ h2,Below.heap_setCell _ _ _ _ h1]
 ·rw[e];simp[World.setCell]
 ·rw[e];simp[World.setCell]
 ·rw[e];simp[World.setCell]
 ·rw[e];simp[World.setCell]
section
variable {w6 wr wr' : World} {F : Nat} {x2 x3 : Value} {U V : Nat -> Value} {b1 : Nat} {p1 : Option Addr} {c1 b2 : Nat} {p2 : Option Addr} {c2 : Nat}
theorem FwI.below(h:FwI w6 wr F x2 x3 U V b1 p1 c1 b2 p2 c2)(k:Below wr.heap.size wr wr'):FwI w6 wr' F x2 x3 U V b1 p1 c1 b2 p2 c2:=by
 have hb:=k.block F h.lt;have ce:∀q,wr'.cell? ⟨F,q,none⟩=wr.cell? ⟨F,q,none⟩:=fun q=>World.cell?_of_block hb
 have own:∀{t v n cs},wr.ownsRow (F+1) t 1 v n cs->wr'.ownsRow (F+1) t 1 v n cs:=fun {t v n cs} ho=>by
  refine ho.kept (row:=none) ⟨k.os,k.tape,k.output,k.size,fun j hj _=>k.block j hj⟩ ?_;cases v.ownBlock with
  | none=>exact Or.inl rfl
  | some j=>exact Or.inr sP
 exact⟨(ce 0).trans h.e0,(ce 1).trans h.e1,(ce 2).trans h.e2,(ce 3).trans h.e3,fun q=>(World.frozen?_of_block hb).trans (h.thaw q),h.bel.trans (k.mono (Nat.le_of_lt h.lt)),Nat.lt_of_lt_of_le h.lt k.size,h.le,own h.o1,own h.o2,h.dj⟩
theorem VZ{w:World}{B t s n:Nat}{v:Value}{cs:List Value}(h:w.ownsRow B t s v n cs){k:Nat}(hk:w.heap.size<=k):v.ownBlock=none\/v.ownBlock≠some k:=by
 by_cases e:v.ownBlock=some k
 ·have:=(h.lt k e).2;omega
 ·exact Or.inr e
theorem Zhc{a b:Option Nat}(h:a=none\/a≠b):b=none\/b≠a:=by
 rcases h with h | h
 ·subst h
  cases b with
  | none=>exact Or.inl rfl
  | some k=>exact Or.inr sP
 ·exact Or.inr (fun e=>h e.symm)
theorem ZaT{w:World}{B t s n:Nat}{v:Value}{cs:List Value}(h:w.ownsRow B t s v n cs):w.drew.ownsRow B t s v n cs:=h
theorem Vi{α:Type}(f:Nat->α)(b:Nat):(List.range (b+1)).map f=(List.range b).map f++[f b]:=by rw[List.range_succ,List.map_append];rfl
theorem FwI.app1{w8:World}{ob:Obj}{p1':Option Addr}{c1':Nat}(h:FwI w6 wr F x2 x3 U V b1 p1 c1 b2 p2 c2)(hg:(wr.alloc ob).grownBy w8 (Value.slice p1 b1 c1).ownBlock)(ho:w8.ownsRow (F+1) 62 1 (.slice p1' (b1+1) c1') (b1+1) ((List.range b1).map U++[U b1]))(hat:(Value.slice p1' (b1+1) c1').ownBlock=(Value.slice p1 b1 c1).ownBlock\/(Value.slice p1' (b1+1) c1').ownBlock=some (wr.heap.size+1)) :
 FwI w6 (w8.setCell ⟨F,0,none⟩ (.slice p1' (b1+1) c1')) F x2 x3 U V (b1+1) p1' c1' b2 p2 c2/\(∀q,w8.cell? ⟨F,q,none⟩=wr.cell? ⟨F,q,none⟩)/\(∀q,w8.frozen? ⟨F,q,none⟩=false)/\Below F wr w8:=by
 have hlt:=h.lt;have ha:∀k,k<wr.heap.size->(wr.alloc ob).heap[k]?=wr.heap[k]?:=fun k hk=>Below.heap_alloc _ _ _ hk
 have hsz:(wr.alloc ob).heap.size=wr.heap.size+1:=World.size_alloc _ _;have hgs:=hg.size;have hnv:∀k,k<=F->some k≠(Value.slice p1 b1 c1).ownBlock:=fun k hk e=>by have:=(h.o1.lt k e.symm).1;omega
 have hb:w8.heap[F]?=wr.heap[F]?:=(hg.block F oM (hnv _ (Nat.le_refl _))).trans (ha _ hlt);have ce:∀q,w8.cell? ⟨F,q,none⟩=wr.cell? ⟨F,q,none⟩:=fun q=>World.cell?_of_block hb
 have fe:∀q,w8.frozen? ⟨F,q,none⟩=false:=fun q=>(World.frozen?_of_block hb).trans (h.thaw q)
 have hbl:Below F wr w8:=⟨hg.os,hg.tape,hg.output,oM,fun k hk=>(hg.block k oM (hnv k oM)).trans (ha k oM)⟩;refine⟨⟨World.cell?_setCell_same _ _ _ ((ce 0).trans h.e0),(X9 _ _ oM _).trans ((ce 1).trans h.e1),(X9 _ _ oM _).trans ((ce 2).trans h.e2),(X9 _ _ oM _).trans ((ce 3).trans h.e3),fun q=>by rw[World.frozen?_setCell];exact fe q,(h.bel.trans hbl).setCell (p:=⟨F,0,none⟩) (Nat.le_refl _) _,by rw[Xd];omega,h.le,?_,?_,?_⟩,ce,fe,hbl⟩
 ·rw[Vi]
  exact ownsRow_setCell_below ho (by show F<F+1;omega) _
 ·exact ownsRow_setCell_below ((h.o2.alloc ob).kept hg (Zhc h.dj)) (by show F<F+1;omega) _
 ·rcases hat with e | e
  ·rw[e];exact h.dj
  ·rcases VZ h.o2 (k:=wr.heap.size+1) oM with f | f
   ·exact Or.inr (by rw[e,f];simp)
   ·exact Or.inr (by rw[e];exact fun k=>f k.symm)
theorem FwI.app2{w8:World}{ob:Obj}{p2':Option Addr}{c2':Nat}(h:FwI w6 wr F x2 x3 U V b1 p1 c1 b2 p2 c2)(hg:(wr.alloc ob).grownBy w8 (Value.slice p2 b2 c2).ownBlock)(ho:w8.ownsRow (F+1) 4 1 (.slice p2' (b2+1) c2') (b2+1) ((List.range b2).map V++[V b2]))(hat:(Value.slice p2' (b2+1) c2').ownBlock=(Value.slice p2 b2 c2).ownBlock\/(Value.slice p2' (b2+1) c2').ownBlock=some (wr.heap.size+1)) :
 FwI w6 (w8.setCell ⟨F,1,none⟩ (.slice p2' (b2+1) c2')) F x2 x3 U V b1 p1 c1 (b2+1) p2' c2'/\(∀q,w8.cell? ⟨F,q,none⟩=wr.cell? ⟨F,q,none⟩)/\(∀q,w8.frozen? ⟨F,q,none⟩=false)/\Below F wr w8:=by
 have hlt:=h.lt;have ha:∀k,k<wr.heap.size->(wr.alloc ob).heap[k]?=wr.heap[k]?:=fun k hk=>Below.heap_alloc _ _ _ hk
 have hsz:(wr.alloc ob).heap.size=wr.heap.size+1:=World.size_alloc _ _;have hgs:=hg.size;have hnv:∀k,k<=F->some k≠(Value.slice p2 b2 c2).ownBlock:=fun k hk e=>by have:=(h.o2.lt k e.symm).1;omega
 have hb:w8.heap[F]?=wr.heap[F]?:=(hg.block F oM (hnv _ (Nat.le_refl _))).trans (ha _ hlt);have ce:∀q,w8.cell? ⟨F,q,none⟩=wr.cell? ⟨F,q,none⟩:=fun q=>World.cell?_of_block hb
 have fe:∀q,w8.frozen? ⟨F,q,none⟩=false:=fun q=>(World.frozen?_of_block hb).trans (h.thaw q)
 have hbl:Below F wr w8:=⟨hg.os,hg.tape,hg.output,oM,fun k hk=>(hg.block k oM (hnv k oM)).trans (ha k oM)⟩;refine⟨⟨(X9 _ _ oM _).trans ((ce 0).trans h.e0),World.cell?_setCell_same _ _ _ ((ce 1).trans h.e1),(X9 _ _ oM _).trans ((ce 2).trans h.e2),(X9 _ _ oM _).trans ((ce 3).trans h.e3),fun q=>by rw[World.frozen?_setCell];exact fe q,(h.bel.trans hbl).setCell (p:=⟨F,1,none⟩) (Nat.le_refl _) _,by rw[Xd];omega,h.le,?_,?_,?_⟩,ce,fe,hbl⟩
 ·exact ownsRow_setCell_below ((h.o1.alloc ob).kept hg h.dj) (by show F<F+1;omega) _
 ·rw[Vi]
  exact ownsRow_setCell_below ho (by show F<F+1;omega) _
 ·rcases hat with e | e
  ·rw[e];exact h.dj
  ·rcases VZ h.o1 (k:=wr.heap.size+1) oM with f | f
   ·exact Or.inl f
   ·exact Or.inr (by rw[e];exact f)
end
end
theorem WP(v:Int)(a:Option Addr)(n c:Nat)(xs:List Xi)(L B:Nat)(w:World)(ha:Hid (Xl w L B a xs))(hx:Hid (n=xs.length))(hs:Hid (xs.length+Xk xs<=1048576))(hB:B<=w.heap.size)(hO:Hid (Ky w))(hT:Hid (Kd w))(hv:Hid (XQ ⟨v,xs⟩=true)) :
 Calls Tryz.prog 59 #[.agg #[.int .i64 v,.slice a n c]] w fun e w'=>∃U P g1 c1 g2 c2 g3 g4 c4,e=.returned (.agg #[.slice (some ⟨g1,0,none⟩) n c1,.slice (some ⟨g2,0,none⟩) n c2,.slice (some ⟨g3,0,none⟩) n n,.slice (some ⟨g4,0,none⟩) (Xs P n 0).length c4])/\Below w.heap.size w w'/\Y1 (Xx xs) n P/\Zgh w' w.heap.size n U (fun i:Nat=>predsFrom xs 0 (i:Int)) (fun z=>Xf (Y7 xs).1 z) P (Xs P n 0) g1 c1 g2 c2 g3 g4 c4:=by
 have HOK:=Xa (Ke hv.out);have hn2:n<=1000:=by have:=HOK.n2;have:=hx.out;omega
 have hn1:1<=n:=by have:=HOK.n1;have:=hx.out;omega
 have HVF:=Xa (fun W (hb:Below w.heap.size w W)=>JL v a n c xs L B W (Xa (ha.keep (hb.mono hB))) hx hs (by have:=hb.size;omega) (Xa (hO.keep hb)) (Xa (hT.keep hb)));rw[hv.out]at HVF;have HPR:=Xa (fun W (hb:Below w.heap.size w W)=>Zi v a n c xs L B W (Xa (ha.keep (hb.mono hB))) hx oM (by have:=hb.size;omega) (Xa (by rw[hx.out];exact HOK.ok)))
 go_enter Tryz.func59,Tryz.ntmps59
 go_wp2_with fail
 refine(HVF.out _ (Xb (Xb (Below.refl _ _) _) _)).mono ?_;rintro e w1 ⟨rfl,hb1⟩;obtain⟨hc1,hf1⟩:=bcell hb1;have k0:w1.cell? ⟨w.heap.size,0,none⟩=some (.int .i64 v):=by rw[hc1 _ _ (by simp;omega)];simp[go_sem]
 have k1:w1.cell? ⟨w.heap.size,1,none⟩=some (.slice a n c):=by rw[hc1 _ _ (by simp;omega)];simp[go_sem]
 have HB1:=Xa (Xe (Xb (Xb (Below.refl w.heap.size w) _) _) hb1);have hz1:w.heap.size+2<=w1.heap.size:=by have:=hb1.size;simp at this;omega
 have HR1:Hid (w1.rowIs (w.heap.size+1) 48 4 (fun _=>.slice none 0 0)):=Xa (by
  have h:=World.rowIs_alloc (w.alloc (.cells #[.int .i64 v,.slice a n c] 32)) #[.slice none 0 0,.slice none 0 0,.slice none 0 0,.slice none 0 0] 48 (fun _=>.slice none 0 0) (fun i hi=>by
   match i,hi with
   | 0,_=>rfl
   | 1,_=>rfl
   | 2,_=>rfl
   | 3,_=>rfl)
  rw[World.size_alloc]at h;exact h.of_block (hb1.block _ sP))
 clear hc1 hf1 hb1 HVF
 go_wp2_with fail
 refine(HPR.out w1 HB1.out).mono ?_;rintro e w2 ⟨U,rfl,hb2,hU⟩;have K0:=Xa k0;have K1:=Xa k1;have HB2:=Xa (Xe HB1.out hb2);have HU:=Xa hU;have hz2:=hb2.size;have HR2:=Xa (HR1.of_block (hb2.block _ HR1.lt));have q0:=(XD hb2 oM).trans k0;have q1:=(XD hb2 oM).trans k1;clear k0 k1 K0 K1 HPR hU;clear hb2
 go_wp2_with fail
 refine(ZV v a n c w2 hn2).mono ?_;rintro e w3 ⟨bS,gS,rfl,hbS,hgS,hb3,hs3⟩;have HB3:=Xa hb3;have HS3:=Xa hs3;have hz3:=hb3.size;have hKb:(n+63) / 64<=100:=oM;have hKn:n<=64*((n+63) / 64):=oM;generalize (n+63) / 64=KK at *;have HC:Hid (w2.cell? ⟨w.heap.size,0,none⟩=some (.int .i64 v)/\w2.cell? ⟨w.heap.size,1,none⟩=some (.slice a n c)):=Xa ⟨q0,q1⟩;clear q0 q1 hb3 hs3;have HZ3:Hid (Xl w3 L B a xs):=Xa (ha.keep ((Xe HB2.out HB3.out).mono hB));have HVI:=Xa (TL bS gS w3.heap.size KK n c a xs L B hx hn2 hKn hKb oM oM oM (Xa (by rw[hx.out];exact HOK.tgt)) xs.length 0 (fun _=>0) (.slice none 0 0) [] w3 HS3 HZ3 hn1 (Xa (by rw[hx.out];exact YT _ _)) (Xa Jw) (by simp only[List.length_nil,Nat.zero_add];exact YT _ _))
 go_wp2_with fail
 refine HVI.mono ?_;rintro e w4 ⟨rfl,v4,hf4,hs4⟩;have HS4:Hid (Yu w4 bS gS w3.heap.size KK a n c (Y7 xs).1 v4 (Y7 xs).2):=Xa (by unfold Y7;exact hs4);clear hs4;have hs4:=HS4.out;have hbk4:∀k,k<w2.heap.size->w4.heap[k]?=w2.heap[k]?:=fun k hk=>(hf4.block k oM oM oM (fun e=>by cases e)).trans (HB3.block k hk)
 have HB4:Hid (Below w2.heap.size w2 w4):=Xa ⟨hf4.os.trans HB3.os,hf4.tape.trans HB3.tape,hf4.output.trans HB3.output,by have:=hf4.size;omega,hbk4⟩;have hql:0<(Y7 xs).2.length/\(Y7 xs).2.length<=1000:=by
  have h1:=HOK.ord_len;have h2:(Zn xs).length=(Y7 xs).2.length:=by simp[Zn]
  have:=HOK.n2;omega
 obtain⟨gL,cL,rfl,⟨hgL1,hgL2⟩,hcL⟩:=Xp hs4.own hql.1;have HON:Hid (Yo (Y7 xs).2=(Xh (Y7 xs).2).map (Value.int .i64)):=Xa (by simp[Yo,Xh]);have HOR:Hid ((Xh (Y7 xs).2).reverse=Xh (Zn xs)):=Xa (by simp[Zn,Xh]);have HOL:Hid ((Y7 xs).2.length=(Zn xs).length):=Xa (by simp[Zn]);have HO4:Hid (w4.ownsRow w3.heap.size 2 1 (.slice (some ⟨gL,0,none⟩) (Y7 xs).2.length cL) (Y7 xs).2.length ((Xh (Y7 xs).2).map (Value.int .i64))):=Xa (by rw[<-HON.out];exact hs4.own);have HQN:Hid ((Y7 xs).2.length=(Xh (Y7 xs).2).length):=Xa (by simp[Xh]);have c2:=hs4.c2;have c1:=hs4.c1;have HGR:=Xa hs4.row;have hne4:=hs4.ne;have hlb:=hs4.lb;have hlg:=hs4.lg;generalize (Y7 xs).2.length=q at *;clear hf4 hs4 HS4 HVI HS3 HZ3 hbk4
 go_wp2_with fail
 refine(JX gL q cL w3.heap.size (Xh (Y7 xs).2) w4 oM HQN HO4).mono ?_;rintro e w5 ⟨rfl,hg5,ho5⟩;rw[HOR.out]at ho5;have HO5:=Xa ho5;have HB5:Hid (Below w2.heap.size w2 w5):=Xa (HB4.grown hg5 HB4.size (fun k e=>by cases e;omega));have c2':=(World.cell?_of_block (a:=⟨bS,2,none⟩) (hg5.block bS (by have:=HB4.size;omega) (fun e=>by injection e with e;omega))).trans c2;have c1':=(World.cell?_of_block (a:=⟨bS,1,none⟩) (hg5.block bS (by have:=HB4.size;omega) (fun e=>by injection e with e;omega))).trans c1;have HGR5:=Xa (HGR.of_block (hg5.block gS (by have:=HGR.lt;omega) (fun e=>by injection e with e;omega)));have hz5:=hg5.size;clear hg5 ho5 c1 c2 HGR HO4 HQN
 go_wp2_with fail
 have HSL:Hid (((List.range n).map fun i:Nat=>predsFrom xs 0 (i:Int))=((List.range n).map (XH xs n)).map Xh):=Xa (by
  rw[List.map_map];apply List.map_congr_left;intro b _;rw[Function.comp,hx.out];exact Jm (fun x hx t ht=>(HOK.tgt x hx t ht).1) b)
 have HSR:Hid (XF w5 (w1.heap.size+1) w2.heap.size (some ⟨w1.heap.size+1,0,none⟩) (((List.range n).map (XH xs n)).map Xh)):=Xa (by rw[<-HSL.out];exact HU.ints.keep HB5.out);have HOI:Hid (Xg w5 w3.heap.size w5.heap.size (some ⟨gL,0,none⟩) (Xh (Zn xs))):=Xa (by
  obtain⟨a',c',hv',hi'⟩:=Xj HO5.out;injection hv' with e1;rw[e1];exact hi')
 have HNE:=Xa (Zbi (some ⟨w1.heap.size+1,0,none⟩) n n gL 0 q cL ((List.range n).map (XH xs n)) (Zn xs) w3.heap.size w5.heap.size (w1.heap.size+1) w2.heap.size w5 HSR (Xa sP) HOI HOL hn2 hn1 hql.2 hql.1 hcL (Nat.le_refl _) HB5.size (Xa (by rw[hx.out];exact HOK.ord_len.2.2)) (Xa (fun l hl=>by
  obtain⟨b,_,rfl⟩:=List.mem_map.1 hl;exact⟨Nat.le_trans VL oM,fun t ht=>(Kn.1 ht).1⟩)))
 refine HNE.mono ?_;rintro e w6 ⟨gN,Ws,rfl,hgN,hb6,hr6,hw6⟩;have HID:Hid (Y1 (Xx xs) n ((List.range n).map (T1 Ws (Zn xs) q))):=Xa (by
  have h:=HOK.idm (Ws:=Ws) (by rw[<-hx.out];exact hw6);rw[<-HOL.out,<-hx.out]at h;exact h)
 have HRN:=Xa hr6;have HB6:=Xa (HB5.trans (hb6.mono HB5.size));have hz6:=hb6.size;have d1:=(hb6.cell (p:=⟨bS,1,none⟩) (by show bS<_;have:=HB4.size;omega)).trans c1';have HGR6:=Xa (HGR5.of_block (hb6.block gS HGR5.lt));have hgSl:=HGR5.lt;have hbSl:bS<w5.heap.size:=oM;have f0:=(XD HB6.out oM).trans HC.1;have f1:=(XD HB6.out oM).trans HC.2;have hlw:w.heap.size<w6.heap.size:=oM;have f1a:=fun o=>(World.cell?_alloc_lt w6 o ⟨w.heap.size,1,none⟩ hlw).trans f1
 clear hb6 hr6 hw6 c1' c2' HGR5 HNE HOI HSR HO5 HOR HON HB3
 go_wp2_with fail
 have HF0:Hid (FwI w6 (w6.alloc (.cells #[.slice none 0 0,.slice none 0 0,.slice (some ⟨gN,0,none⟩) n n,.slice none 0 0] 48)) w6.heap.size (.slice (some ⟨gN,0,none⟩) n n) (.slice none 0 0) U (fun z=>.bool (Xf (Y7 xs).1 z)) 0 none 0 0 none 0):=Xa
  ⟨by simp[go_sem],by simp[go_sem],by simp[go_sem],by simp[go_sem],fun q=>(World.rowIs_alloc w6 #[.slice none 0 0,.slice none 0 0,.slice (some ⟨gN,0,none⟩) n n,.slice none 0 0] 48 (fun i=>#[.slice none 0 0,.slice none 0 0,.slice (some ⟨gN,0,none⟩) n n,.slice none 0 0].getD i undef) (fun i hi=>by simp[Array.getElem?_eq_getElem hi])).frozen q,Xb (Below.refl _ _) _,sP,rfl,World.ownsRow_nil _ _ _ _,World.ownsRow_nil _ _ _ _,Or.inl rfl⟩
 clear f0 f1 f1a
 go_loopw [32] (fun u wr=>∃(b:Nat)(p1:Option Addr)(c1:Nat)(p2:Option Addr)(c2:Nat),b<=n/\u=.int .i64 b/\Hid (FwI w6 wr w6.heap.size (.slice (some ⟨gN,0,none⟩) n n) (.slice none 0 0) U (fun z=>.bool (Xf (Y7 xs).1 z)) b p1 c1 b p2 c2)) (fun u _=>n-(intOf u).toNat)
 case atStart=>exact⟨0,none,0,none,0,Nat.zero_le _,rfl,HF0⟩
 case round =>
  clear HF0;obtain⟨b,p1,c1,p2,c2,hbn,rfl,HFb⟩:=hrel;by_cases hlt:b<n
  ·have hwl:=HFb.lt
   have m0:=HFb.e0;have mz:=HFb.thaw 0;have mU:wr.cell? ⟨w1.heap.size+1,b,none⟩=some (U b):=((HFb.bel).cell (p:=⟨w1.heap.size+1,b,none⟩) (by show w1.heap.size+1<_;have:=HU.1.lt;have:=HB6.size;omega)).trans ((HB6.cell (p:=⟨w1.heap.size+1,b,none⟩) (by show w1.heap.size+1<_;exact HU.1.lt)).trans (HU.1.cell hlt));obtain⟨ua,uc,hUb,_⟩:=Xj (HU.2.1 b hlt);have HUB:=Xa hUb;rw[hUb]at mU;generalize (predsFrom xs 0 (b:Int)).length=ul at *;clear hUb;obtain⟨i1,hi1,hy0,hy1,hy2⟩:=X7 Tryz.infoSetI
   go_wp2_with fail
   have hUl:w1.heap.size+1<w6.heap.size:=by have:=HU.1.lt;have:=HB6.size;omega
   have hUn:w1.heap.size+1≠w6.heap.size:=oM;have hbS6:bS<w6.heap.size:=oM;have hbSn:bS≠w6.heap.size:=oM;have HAS:=Xa (fun W (h:Below w6.heap.size w6 W)=>Zx gS KK b (Y7 xs).1 W (Xa (Zac (Xx xs) xs.length 0 _ Jw)) (Xa (HGR6.of_block (h.block gS oM))) oM oM);refine ZB (fun w'=>w'.cell? ⟨w1.heap.size+1,b,none⟩=some (.slice ua ul uc)) (fun hHeld=>?_);refine XE 0 ?_;refine XE 2 ?_;refine XE 3 ?_;refine XE 4 ?_;refine XE 5 ?_;refine XE 6 ?_;refine wpAnyH_ready (rs:=[1,7]) kR sP ?_;refine(AllReadyH.cons rfl (fun K hK=>?_) (AllReadyH.cons rfl (fun K hK=>?_) AllReadyH.nil));go_simp;refine hK _ _ kP (fun hHeld=>?_);clear hK
   try simp only[Act.put,xA,xB,xC,xD,xE,xF]
   refine Xz 7 (fun K hK=>?_);go_simp;refine hK _ _ kP (fun hHeld=>?_);clear hK;rotate_left;go_simp;refine hK _ _ kP (fun hHeld=>?_);clear hK
   try simp only[Act.put,xA,xB,xC,xD,xE,xF]
   refine Xz 1 (fun K hK=>?_);go_simp;refine hK _ _ kP (fun hHeld=>?_);clear hK
   all_goals (
    refine Xz 8 (fun K hK=>?_);refine XC rfl _ _ 45 rfl (w6.heap.size+1) 62 i1 (.agg #[.slice none 0 0]) 1 24 Tryz.underlying45 hi1 hy0 hy1 hy2 rfl vZ (.slice p1 b c1) b ((List.range b).map U) rfl ?s1 ⟨wr.heap.size,0,none⟩ 1 1 [.slice ua ul uc] rfl rfl ?s2 ?s3 ?s4 ?s5 ?s6 ?_
    case s1=>exact(ZaT HFb.o1).alloc _
    case s2=>exact XY _ _ _
    case s3=>intro u hu;simp at hu;subst hu;rfl
    case s4=>unfold maxLen;omega
    case s5=>omega
    case s6=>simp;omega
    intro v8 w8 hown8 hg8 _ hat8;obtain⟨g8,c8,rfl,hg8r,_⟩:=Xp hown8 oM;obtain⟨hF8,ce8,fe8,hbl8⟩:=(HFb.below (Below.refl wr.heap.size wr).drew).app1 hg8 (by rw[HUB.out];exact hown8) (by simpa using hat8);have z0:w8.cell? ⟨w6.heap.size,0,none⟩=some (.slice p1 b c1):=(ce8 0).trans HFb.e0;have zf:=fe8 0;have zU:w8.cell? ⟨w1.heap.size+1,b,none⟩=some (.slice ua ul uc):=(hbl8.cell (p:=⟨w1.heap.size+1,b,none⟩) hUl).trans mU;have HF8:=Xa hF8;clear hown8 hg8 hat8 hF8 ce8 fe8 hbl8;refine hK _ _ zU (fun hHeld=>?_);clear hK;refine XE 9 ?_;refine Xz 10 (fun K hK=>?_);go_simp;refine hK _ _ ((Xc (Below.heap_setCell _ _ _ _ hUn)).trans zU) (fun hHeld=>?_);clear hK;refine Zu ?_;clear hHeld z0 zf zU;generalize w8.setCell ⟨w6.heap.size,0,none⟩ (.slice (some ⟨g8,0,none⟩) (b+1) c8)=w9 at *;have HF9d:=Xa (HF8.below (Below.refl w9.heap.size w9).drew);have x1:=HF8.e1;have xl:=HF8.lt;have xS:=(HF8.bel.cell (p:=⟨bS,1,none⟩) hbS6).trans d1;obtain⟨i2,hi2,hv0,hv1,hv2⟩:=X7 Tryz.infoBo;clear m0 mz mU HFb
    go_wp2_with fail
    refine ZB (fun w'=>w'.cell? ⟨bS,1,none⟩=some (.slice (some ⟨gS,0,none⟩) KK KK)) (fun hHeld=>?_);refine XE 0 ?_;refine XE 2 ?_;refine XE 3 ?_;refine XE 4 ?_;refine XE 5 ?_;refine XE 6 ?_;refine wpAnyH_ready (rs:=[1,7]) kR sP ?_;refine(AllReadyH.cons rfl (fun K hK=>?_) (AllReadyH.cons rfl (fun K hK=>?_) AllReadyH.nil));go_simp;refine hK _ _ kP (fun hHeld=>?_);clear hK
    try simp only[Act.put,xA,xB,xC,xD,xE,xF]
    refine Xz 7 (fun K hK=>?_);go_simp
    go_at_call 92
    refine(HAS.out _ HF9d.bel).mono ?_;rintro e w10 ⟨rfl,hb10⟩;have HF10:=Xa (HF9d.below hb10);have y1:=HF10.e1;have yl:=HF10.lt;have yS:=(HF10.bel.cell (p:=⟨bS,1,none⟩) hbS6).trans d1;clear hb10;refine hK _ _ yS (fun hHeld=>?_);clear hK;refine Xz 8 (fun K hK=>?_);go_simp;refine hK _ _ kP (fun hHeld=>?_);clear hK;rotate_left;go_simp
    go_at_call 92
    refine(HAS.out _ HF9d.bel).mono ?_;rintro e w10 ⟨rfl,hb10⟩;have HF10:=Xa (HF9d.below hb10);have y1:=HF10.e1;have yl:=HF10.lt;have yS:=(HF10.bel.cell (p:=⟨bS,1,none⟩) hbS6).trans d1;clear hb10;refine hK _ _ yS (fun hHeld=>?_);clear hK
    try simp only[Act.put,xA,xB,xC,xD,xE,xF]
    refine wpAnyH_ready (rs:=[1,8]) kR sP ?_;refine(AllReadyH.cons rfl (fun K hK=>?_) (AllReadyH.cons rfl (fun K hK=>?_) AllReadyH.nil));go_simp;refine hK _ _ kP (fun hHeld=>?_);clear hK
    try simp only[Act.put,xA,xB,xC,xD,xE,xF]
    refine Xz 8 (fun K hK=>?_);go_simp;refine hK _ _ kP (fun hHeld=>?_);clear hK;rotate_left;go_simp;refine hK _ _ kP (fun hHeld=>?_);clear hK
    try simp only[Act.put,xA,xB,xC,xD,xE,xF]
    refine Xz 1 (fun K hK=>?_);go_simp;refine hK _ _ kP (fun hHeld=>?_);clear hK
    all_goals (
     refine Xz 9 (fun K hK=>?_);refine XC rfl _ _ 46 rfl (w6.heap.size+1) 4 i2 (.bool false) 1 1 Tryz.underlying46 hi2 hv0 hv1 hv2 rfl vZ (.slice p2 b c2) b ((List.range b).map fun z=>.bool (Xf (Y7 xs).1 z)) rfl ?s1 ⟨w10.heap.size,0,none⟩ 1 1 [.bool (Xf (Y7 xs).1 b)] rfl rfl ?s2 ?s3 ?s4 ?s5 ?s6 ?_
     case s1=>exact HF10.o2.alloc _
     case s2=>exact XY _ _ _
     case s3=>intro u hu;simp at hu;subst hu;rfl
     case s4=>unfold maxLen;omega
     case s5=>omega
     case s6=>simp;omega
     intro v11 w11 hown11 hg11 _ hat11;obtain⟨g11,c11,rfl,hg11r,_⟩:=Xp hown11 oM;obtain⟨hF11,ce11,fe11,hbl11⟩:=HF10.app2 hg11 hown11 (by simpa using hat11);have z0:w11.cell? ⟨w6.heap.size,1,none⟩=some (.slice p2 b c2):=(ce11 1).trans HF10.e1;have zf:=fe11 1;have zS:w11.cell? ⟨bS,1,none⟩=some (.slice (some ⟨gS,0,none⟩) KK KK):=(hbl11.cell (p:=⟨bS,1,none⟩) hbS6).trans yS;have HF11:=Xa hF11;clear hown11 hg11 hat11 hF11 ce11 fe11 hbl11;refine hK _ _ zS (fun hHeld=>?_);clear hK;refine XE 10 ?_;refine Xz 11 (fun K hK=>?_);go_simp;refine hK _ _ ((Xc (Below.heap_setCell _ _ _ _ hbSn)).trans zS) (fun hHeld=>?_);clear hK;refine Zu ?_;clear hHeld z0 zf zS;generalize w11.setCell ⟨w6.heap.size,1,none⟩ (.slice (some ⟨g11,0,none⟩) (b+1) c11)=w12 at *
     go_wp2_with fail
     exact⟨⟨b+1,_,c8,_,c11,oM,gM,HF11⟩,by simp[intOf];omega⟩))
  ·have hbe:n=b:=oM
   subst hbe;have m2:=HFb.e2;have ml:=HFb.lt;obtain⟨P,hP⟩:∃P,P=(List.range n).map (T1 Ws (Zn xs) q):=⟨_,rfl⟩;rw[<-hP]at HID;have HPL:Hid (n=P.length):=Xa HID.len.symm;have HPG:Hid (∀z,z<n->P.getD z 0=T1 Ws (Zn xs) q z):=Xa (fun z hz=>by rw[hP];simp[hz]);have HRN2:Hid (wr.rowIs gN 2 n (fun z=>.int .i64 (P.getD z 0))):=Xa ((HRN.of_block (HFb.bel.block gN HRN.lt)).congr (fun z hz=>by rw[HPG.out z hz]));have hgN6:=HRN.lt;have HIP:Hid (Xg wr gN (gN+1) (some ⟨gN,0,none⟩) P):=Xa (fun i hi=>by
    have hin:i<n:=by have:=HPL.out;omega
    refine⟨gN,0,rfl,⟨Nat.le_refl _,Nat.lt_succ_self _⟩,?_⟩;rw[Nat.zero_add,HRN2.cell hin];simp[hi])
   have HRE:Hid (∀x,Re (Xx xs) x->x<n):=Xa (by rw[hx.out];exact HOK.re);have HPB:Hid (∀p∈P,p<n):=Xa (fun p hp=>(ZfJ HID.out HRE.out p hp).2);have HCH:=Xa (Vk (some ⟨gN,0,none⟩) n n P gN (gN+1) wr HIP HPL hn2 oM HPB);clear hP
   go_wp2_with fail
   refine HCH.mono ?_;rintro e w7 ⟨ca,cc,rfl,hb7,hch⟩;have HPO:=Xa (WL ca n cc P wr.heap.size w7.heap.size w7.heap.size HPL hn2 (Nat.le_refl _) (fun b=>(YH (Xx xs) n b).length) (Xa (fun b c hc=>Wn HID.out HRE.out hc)) (Xa (fun b=>Zfh n b)) n 0 (.slice none 0 0) [] w7 (Xa hch) (Xa (World.ownsRow_nil _ _ _ _)) (Nat.le_refl _) hn1 (Xa oM) (by have:=Uq HID.out HRE.out n 0 Re.root;simp only[List.length_nil];omega));have HB7:=Xa hb7;have HF7:=Xa (HFb.below hb7);have hz7:=hb7.size;have m3:=HF7.e3;have mz:=HF7.thaw 3;clear hb7 hch HCH
   go_wp2_with fail
   refine HPO.mono ?_;rintro e w8 ⟨v8,rfl,hf8,ho8⟩;have HB8:Hid (Below w7.heap.size w7 w8):=Xa ⟨hf8.os,hf8.tape,hf8.output,hf8.size,fun k hk=>hf8.block k hk (fun e=>by cases e)⟩;have hpp:0<(Xs P n 0).length:=by cases n<;>simp[Xs]
   rw[List.nil_append]at ho8;obtain⟨g4,c4,rfl,hg4,_⟩:=Xp ho8 hpp;have HO8:=Xa ho8;have HF8:=Xa (HF7.below HB8.out);have t0:=HF8.e0;have t1:=HF8.e1;have t2:=HF8.e2;have t3:=HF8.e3;have tz:=HF8.thaw 3;have hz8:=HB8.size;have bb:Hid (Below w6.heap.size w6 w8):=Xa HF8.bel;obtain⟨g1,k1,e1,hg1,_⟩:=Xp HF8.o1 hn1;obtain⟨g2,k2,e2,hg2,_⟩:=Xp HF8.o2 hn1;injection e1 with e1a e1b e1c;injection e2 with e2a e2b e2c;subst e1a;subst e2a;subst e1c;subst e2c;have hl1:=(HFb.o1.lt g1 rfl).2;have hl2:=(HFb.o2.lt g2 rfl).2;generalize hQ:(Xs P n 0).length=ql at *;clear HPO hf8 ho8 m2 m3 mz;have hR8:w8.rowIs (w.heap.size+1) 48 4 (fun _=>.slice none 0 0):=HR2.of_block ((bb.block _ oM).trans (HB6.block _ oM));have y0:=hR8.cell (i:=0) vZ;have y1:=hR8.cell (i:=1) vZ;have y2:=hR8.cell (i:=2) vZ;have y3:=hR8.cell (i:=3) vZ;have yf:=hR8.frozen;have hne6:w6.heap.size≠w.heap.size+1:=oM;have hne7:w.heap.size+1≠w6.heap.size:=oM;have HR8:=Xa hR8
   go_wp2_with fail
   obtain⟨wE,hE⟩:∃wE,wE=((((w8.setCell ⟨w6.heap.size,3,none⟩ (.slice (some ⟨g4,0,none⟩) ql c4)).setCell ⟨w.heap.size+1,0,none⟩ (.slice (some ⟨g1,0,none⟩) n c1)).setCell ⟨w.heap.size+1,1,none⟩ (.slice (some ⟨g2,0,none⟩) n c2)).setCell ⟨w.heap.size+1,2,none⟩ (.slice (some ⟨gN,0,none⟩) n n)).setCell ⟨w.heap.size+1,3,none⟩ (.slice (some ⟨g4,0,none⟩) ql c4):=⟨_,rfl⟩;rw[<-hE];obtain⟨z0,z1,z2,z3,hbk,hsz,hos,htp,hou⟩:=ZiW HR8.out hne7 _ _ _ _ _ wE hE;clear hE;refine bodyPost_ret (v:=.agg #[.slice (some ⟨g1,0,none⟩) n c1,.slice (some ⟨g2,0,none⟩) n c2,.slice (some ⟨gN,0,none⟩) n n,.slice (some ⟨g4,0,none⟩) ql c4]) (by simp[results,Tryz.results59,go_sem,z0,z1,z2,z3]) rfl ?_;subst hQ;have hb68:∀k,k<w6.heap.size->k≠w.heap.size+1->wE.heap[k]?=w6.heap[k]?:=fun k h1 h2=>(hbk k oM h2).trans (bb.block k h1)
   have hulk:∀i,i<n->∀k,(U i).ownBlock=some k->w1.heap.size+1+1<=k/\k<w2.heap.size:=fun i hi k e=>(HU.2.1 i hi).lt k e
   have hz26:=HB6.size;refine⟨U,P,g1,c1,g2,c2,gN,g4,c4,rfl,?_,HID.out,HID.len,?_,?_,?_,?_,?_,?_,?_,?_⟩
   ·exact⟨hos.trans (bb.os.trans (HB6.os.trans HB2.os)),htp.trans (bb.tape.trans (HB6.tape.trans HB2.tape)),hou.trans (bb.output.trans (HB6.output.trans HB2.output)),oM,fun k hk=>(hb68 k oM oM).trans ((HB6.block k oM).trans (HB2.block k hk))⟩
   ·exact UD HF8.o1 oM (fun k e=>by cases e;exact hbk g1 oM oM)
   ·exact UD HF8.o2 oM (fun k e=>by cases e;exact hbk g2 oM oM)
   ·exact HRN2.of_block ((hb68 gN hgN6 oM).trans (HFb.bel.block gN hgN6).symm)
   ·exact UD HO8.out oM (fun k e=>by cases e;exact hbk g4 oM oM)
   ·exact fun i hi=>UD (HU.2.1 i hi) oM (fun k e=>by have:=hulk i hi k e;exact(hb68 k oM oM).trans (HB6.block k oM))
   ·exact HU.2.2
   ·refine⟨oM,fun e=>?_,oM,oM,oM,oM,oM⟩
    rcases HF8.dj with h | h
    ·cases h
    ·exact h (by rw[e];rfl)
   ·exact fun i hi k e=>by have:=hulk i hi k e;omega
end Go.Proofs.YthgikffcdgpgiaaGreatDoor
