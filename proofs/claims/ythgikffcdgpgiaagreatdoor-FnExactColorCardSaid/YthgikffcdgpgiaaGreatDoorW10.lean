import Derived.Test.YthgikffcdgpgiaaGreatDoorIw
import Derived.Test.YthgikffcdgpgiaaGreatDoorRFN
import Derived.Test.YthgikffcdgpgiaaGreatDoorOHI
namespace Go.Proofs.YthgikffcdgpgiaaGreatDoor
set_option maxHeartbeats 2000000
set_option maxRecDepth 100000
open Go.RowKit Go.Shelf
theorem WQ(op dst a b imm:Int)(w:World) :
 Calls Tryz.prog 138 #[.agg #[.int .i64 op,.int .i64 dst,.int .i64 a,.int .i64 b,.int .i64 imm]] w fun e w'=>e=.returned (.bool (TX ⟨op,dst,a,b,imm⟩))/\Below w.heap.size w w':=by
 go_enter Tryz.func138,Tryz.ntmps138
 go_wp2
 all_goals
  go_ret
  refine⟨Xm ?_,Xb (Below.refl _ _) _⟩
  first | (simp[TX, *];done) | (simp[TX, *];omega)
def Ky(w:World):Prop:=0 < w.heap.size/\∀k:Nat,1<=k->k<=13->∃s,w.cell? ⟨0,k*5,none⟩=some (.string s)/\w.cell? ⟨0,k*5+1,none⟩=some (.bool (dB k))/\w.cell? ⟨0,k*5+2,none⟩=some (.bool (aB k)) /\
 w.cell? ⟨0,k*5+3,none⟩=some (.bool (bB k))/\∃i,w.cell? ⟨0,k*5+4,none⟩=some (.bool i)
def Kd(w:World):Prop:=2 < w.heap.size/\∀k:Nat,1<=k->k<=3->∃s,w.cell? ⟨2,k*4,none⟩=some (.string s)/\w.cell? ⟨2,k*4+1,none⟩=some (.bool ((k:Int) != 1))/\w.cell? ⟨2,k*4+2,none⟩=some (.bool ((k:Int) != 3)) /\
 w.cell? ⟨2,k*4+3,none⟩=some (.bool ((k:Int)==2))
theorem Ky.keep{w w':World}(h:Ky w)(k:Below w.heap.size w w'):Ky w':=by
 refine⟨Nat.lt_of_lt_of_le h.1 k.size,fun i h1 h2=>?_⟩;have e:=fun o=>Xc (o:=o) (k.block 0 h.1)
 obtain⟨s,c0,c1,c2,c3,j,c4⟩:=h.2 i h1 h2;exact⟨s,(e _).trans c0,(e _).trans c1,(e _).trans c2,(e _).trans c3,j,(e _).trans c4⟩
theorem Kd.keep{w w':World}(h:Kd w)(k:Below w.heap.size w w'):Kd w':=by
 refine⟨Nat.lt_of_lt_of_le h.1 k.size,fun i h1 h2=>?_⟩;have e:=fun o=>Xc (o:=o) (k.block 2 h.1)
 obtain⟨s,c0,c1,c2,c3⟩:=h.2 i h1 h2;exact⟨s,(e _).trans c0,(e _).trans c1,(e _).trans c2,(e _).trans c3⟩
theorem UG(op dst a b imm n most:Int)(w:World)(hm:most<=13)(hT:Hid (Ky w)) :
 Calls Tryz.prog 122 #[.agg #[.int .i64 op,.int .i64 dst,.int .i64 a,.int .i64 b,.int .i64 imm],.int .i64 most,.int .i64 n] w fun e w'=>e=.returned (.bool (Ya n most ⟨op,dst,a,b,imm⟩))/\Below w.heap.size w w':=by
 by_cases h:1<=op/\op<=most
 ·obtain⟨h1,h2⟩:=h
  obtain⟨k,rfl⟩:=Int.eq_ofNat_of_zero_le (show 0<=op by omega);have hz:=hT.1;obtain⟨s,c0,c1,c2,c3,j,c4⟩:=hT.2 k oM oM;have hR:Hid (Ya n most ⟨k,dst,a,b,imm⟩=(JI (dB k) dst 0 n&&JI (aB k) a 0 n&&JI (bB k) b 0 n&&TX ⟨k,dst,a,b,imm⟩)):=by
   show _=_;unfold Ya;rw[decide_eq_true h1,decide_eq_true h2];simp
  generalize dB (k:Int)=uD at *;generalize aB (k:Int)=uA at *;generalize bB (k:Int)=uB at *;have hk13:(k:Int)<=13:=oM
  go_enter Tryz.func122,Tryz.ntmps122
  go_wp2_with (first | (go_at_call 123;refine(XU _ _ _ _ _).mono ?_;rintro e w2 ⟨rfl,hw2⟩;rw[hw2];clear hw2 w2) | (go_at_call 138;refine(WQ _ _ _ _ _ _).mono ?_;rintro e w2 ⟨rfl,hb2⟩))
  all_goals
   go_ret
   refine⟨Xm ?_,?_⟩
   ·rw[hR.out];simp[*]
   ·first | exact Xe (Xb (Xb (Below.refl _ _) _) _) hb2 | exact Xb (Xb (Below.refl _ _) _) _
 ·have hn:∃r,r=Ya n most ⟨op,dst,a,b,imm⟩/\r=false:=⟨_,rfl,by
   unfold Ya;by_cases h1:1<=op
   ·rw[decide_eq_false (p:=op<=most) oM];simp
   ·rw[decide_eq_false (p:=1<=op) h1];simp⟩
  obtain⟨r,hr,rfl⟩:=hn;rw[<-hr];clear hr;have h':op<1\/(1<=op/\most<op):=oM;clear h;rcases h' with h' | ⟨h',h''⟩
  all_goals
   go_enter Tryz.func122,Tryz.ntmps122
   go_wp2
   all_goals
    go_ret
    exact⟨rfl,Xb (Below.refl _ _) _⟩
theorem JP(op dst a b imm n:Int)(w:World)(hT:Hid (Ky w)) :
 Calls Tryz.prog 122 #[.agg #[.int .i64 op,.int .i64 dst,.int .i64 a,.int .i64 b,.int .i64 imm],.int .i64 10,.int .i64 n] w fun e w'=>e=.returned (.bool (Ya n 10 ⟨op,dst,a,b,imm⟩))/\Below w.heap.size w w' :=
 UG op dst a b imm n 10 w vZ hT
theorem ZW(kind ta tg els n low bl:Int)(w:World)(hT:Hid (Kd w)) :
 Calls Tryz.prog 121 #[.agg #[.int .i64 kind,.int .i64 ta,.int .i64 tg,.int .i64 els],.int .i64 n,.int .i64 low,.int .i64 bl] w fun e w'=>e=.returned (.bool (YI n low bl ⟨kind,ta,tg,els⟩))/\Below w.heap.size w w':=by
 by_cases h:1<=kind/\kind<=3
 ·obtain⟨h1,h2⟩:=h
  obtain⟨k,rfl⟩:=Int.eq_ofNat_of_zero_le (show 0<=kind by omega);have hz:=hT.1;obtain⟨s,c0,c1,c2,c3⟩:=hT.2 k oM oM;have hR:Hid (YI n low bl ⟨k,ta,tg,els⟩=(JI ((k:Int) != 1) ta 0 n&&JI ((k:Int) != 3) tg low bl&&JI ((k:Int)==2) els low bl)):=by
   show _=_;unfold YI;rw[decide_eq_true h1,decide_eq_true h2];simp
  generalize ((k:Int) != 1)=uA at *;generalize ((k:Int) != 3)=uT at *;generalize ((k:Int)==2)=uE at *
  go_enter Tryz.func121,Tryz.ntmps121
  go_wp2_with (go_at_call 123;refine(XU _ _ _ _ _).mono ?_;rintro e w2 ⟨rfl,hw2⟩;rw[hw2];clear hw2 w2)
  all_goals
   go_ret
   refine⟨Xm ?_,?_⟩
   ·rw[hR.out];simp[*]
   ·exact Xb (Xb (Below.refl _ _) _) _
 ·have hn:∃r,r=YI n low bl ⟨kind,ta,tg,els⟩/\r=false:=⟨_,rfl,Zb0 h⟩
  obtain⟨r,hr,rfl⟩:=hn;rw[<-hr];clear hr;have h':kind<1\/3<kind:=oM;clear h
  go_enter Tryz.func121,Tryz.ntmps121
  go_wp2
  all_goals
   go_ret
   exact⟨rfl,Xb (Below.refl _ _) _⟩
theorem Jz(t:ZX)(w:World) :
 Calls Tryz.prog 94 #[.agg #[.int .i64 t.kind,.int .i64 t.a,.int .i64 t.to,.int .i64 t.els]] w fun e w'=>∃a c,e=.returned (.slice a t.targets.length c)/\Below w.heap.size w w'/\Xg w' w.heap.size w'.heap.size a t.targets:=by
 obtain⟨kind,ta,tg,els⟩:=t;by_cases h1:kind=1
 ·subst h1
  go_enter Tryz.func94,Tryz.ntmps94
  go_wp2
  go_ret
  refine⟨_,_,rfl,Xb (Xb (Below.refl _ _) _) _,fun i hi=>?_⟩;simp[ZX.targets]at hi;subst hi;exact⟨_,_,rfl,⟨sP,sP⟩,by simp[ZX.targets]⟩
 ·by_cases h2:kind=2
  ·subst h2
   go_enter Tryz.func94,Tryz.ntmps94
   go_wp2
   go_ret
   refine⟨_,_,rfl,Xb (Xb (Below.refl _ _) _) _,fun i hi=>?_⟩;simp[ZX.targets]at hi
   match i,hi with
   | 0,_=>exact⟨_,_,rfl,⟨sP,sP⟩,by simp[ZX.targets]⟩
   | 1,_=>exact⟨_,_,rfl,⟨sP,sP⟩,by simp[ZX.targets]⟩
  ·have e1:(kind==1)=false:=by simp[h1]
   have e2:(kind==2)=false:=by simp[h2]
   have hn:(ZX.targets ⟨kind,ta,tg,els⟩)=[]:=by simp[ZX.targets,h1,h2]
   rw[hn];clear h1 h2 hn
   go_enter Tryz.func94,Tryz.ntmps94
   go_wp2
   go_ret
   exact⟨_,_,rfl,Xb (Below.refl _ _) _,fun i hi=>absurd hi sP⟩
def iB(op:Int):Bool:=decide (op<=2)
def Zjy(k:Int):List UInt8:=if k=1 then [106,117,109,112]else if k=3 then [114,101,116]else [98,114,97,110,99,104]
def Yf(w:World):Prop:=0 < w.heap.size/\∀k:Nat,1<=k->k<=13->w.cell? ⟨0,k*5,none⟩=some (.string (Jj (VH k)))/\w.cell? ⟨0,k*5+1,none⟩=some (.bool (dB k))/\w.cell? ⟨0,k*5+2,none⟩=some (.bool (aB k)) /\
 w.cell? ⟨0,k*5+3,none⟩=some (.bool (bB k))/\w.cell? ⟨0,k*5+4,none⟩=some (.bool (iB k))
def XT(w:World):Prop:=2 < w.heap.size/\∀k:Nat,1<=k->k<=3->w.cell? ⟨2,k*4,none⟩=some (.string (Jj (Zjy k)))/\w.cell? ⟨2,k*4+1,none⟩=some (.bool ((k:Int) != 1))/\w.cell? ⟨2,k*4+2,none⟩=some (.bool ((k:Int) != 3)) /\
 w.cell? ⟨2,k*4+3,none⟩=some (.bool ((k:Int)==2))
theorem Yf.keep{w w':World}{B:Nat}(h:Yf w)(k:Below B w w')(hB:0 < B):Yf w':=by
 refine⟨Nat.lt_of_lt_of_le h.1 k.size,fun i h1 h2=>?_⟩;have e:=fun o=>Xc (o:=o) (k.block 0 hB)
 obtain⟨c0,c1,c2,c3,c4⟩:=h.2 i h1 h2;exact⟨(e _).trans c0,(e _).trans c1,(e _).trans c2,(e _).trans c3,(e _).trans c4⟩
theorem XT.keep{w w':World}{B:Nat}(h:XT w)(k:Below B w w')(hB:2 < B):XT w':=by
 refine⟨Nat.lt_of_lt_of_le h.1 k.size,fun i h1 h2=>?_⟩;have e:=fun o=>Xc (o:=o) (k.block 2 hB)
 obtain⟨c0,c1,c2,c3⟩:=h.2 i h1 h2;exact⟨(e _).trans c0,(e _).trans c1,(e _).trans c2,(e _).trans c3⟩
theorem Yf.old{w:World}(h:Yf w):Ky w:=⟨h.1,fun k h1 h2=>by
 obtain⟨c0,c1,c2,c3,c4⟩:=h.2 k h1 h2;exact⟨_,c0,c1,c2,c3,_,c4⟩⟩
theorem XT.old{w:World}(h:XT w):Kd w:=⟨h.1,fun k h1 h2=>by
 obtain⟨c0,c1,c2,c3⟩:=h.2 k h1 h2;exact⟨_,c0,c1,c2,c3⟩⟩
theorem Z4(w:World)(vs:List Value)(t:TypeId)(us:List Value)(t':TypeId):YJ ((w.alloc (.cells vs.toArray t)).alloc (.cells us.toArray t')).drew w.heap.size (w.heap.size+2) (some ⟨w.heap.size,0,none⟩) vs:=fun i hi =>
 ⟨_,0,rfl,⟨Nat.le_refl _,oM⟩,by
  obtain⟨b,o,e,_,h⟩:=Zbj w vs t i hi;cases e;exact(Xc (Below.heap_alloc _ _ _ sP)).trans h⟩
theorem Z3(w:World)(vs:List Value)(t:TypeId)(us:List Value)(t':TypeId):YJ ((w.alloc (.cells us.toArray t')).alloc (.cells vs.toArray t)).drew w.heap.size (w.heap.size+2) (some ⟨w.heap.size+1,0,none⟩) vs:=fun i hi =>
 ⟨_,0,rfl,⟨oM,oM⟩,by
  obtain⟨b,o,e,_,h⟩:=Zbj (w.alloc (.cells us.toArray t')) vs t i hi;have e1:(w.alloc (.cells us.toArray t')).heap.size=w.heap.size+1:=sP;rw[e1]at e;cases e;exact h⟩
def rdI(x:YK):List Int:=(if aB x.op then [x.a]else [])++(if bB x.op then [x.b]else [])
theorem ZgQ(b k:Nat)(dst a bb imm:Int)(w:World)(hi:Hid (Y5 w b 0 ⟨k,dst,a,bb,imm⟩))(h1:1<=k)(h2:k<=13)(ht:Hid (Yf w)) :
 Calls Tryz.prog 128 #[.pointer (some ⟨b,0,none⟩)] w fun e w'=>∃v,e=.returned v/\Below w.heap.size w w'/\w'.ownsRow w.heap.size 2 1 v (rdI ⟨k,dst,a,bb,imm⟩).length ((rdI ⟨k,dst,a,bb,imm⟩).map (Value.int .i64)):=by
 obtain⟨q0,q1,q2,q3,q4⟩:=hi.out;simp only at q0 q1 q2 q3 q4;obtain⟨c0,c1,c2,c3,c4⟩:=ht.2 k h1 h2;have hz:=ht.1;have hbl:b<w.heap.size:=World.block_lt_of_cell? w _ q2;have HRI:Hid (rdI ⟨k,dst,a,bb,imm⟩=(if aB (k:Int)then [a]else [])++(if bB (k:Int)then [bb]else [])):=Xa rfl;generalize rdI ⟨k,dst,a,bb,imm⟩=vs at *;generalize dB (k:Int)=uD at *;generalize aB (k:Int)=uA at *;generalize bB (k:Int)=uB at *;generalize iB (k:Int)=uI at *;have HQ2:=Xa q2;have HQ3:=Xa q3
 go_enter Tryz.func128,Tryz.ntmps128
 go_wp2_with fail
 have e1:(w.alloc (.cells #[.string (Jj (VH k)),.bool uD,.bool uA,.bool uB,.bool uI] 181)).heap.size=w.heap.size+1:=sP;have g2:(w.alloc (.cells #[.string (Jj (VH k)),.bool uD,.bool uA,.bool uB,.bool uI] 181)).cell? ⟨w.heap.size,2,none⟩=some (.bool uA):=sP;have g3:(w.alloc (.cells #[.string (Jj (VH k)),.bool uD,.bool uA,.bool uB,.bool uI] 181)).cell? ⟨w.heap.size,3,none⟩=some (.bool uB):=sP;have HBW:Hid (Below w.heap.size w (w.alloc (.cells #[.string (Jj (VH k)),.bool uD,.bool uA,.bool uB,.bool uI] 181))):=Xa (Xb (Below.refl _ _) _);generalize w.alloc (.cells #[.string (Jj (VH k)),.bool uD,.bool uA,.bool uB,.bool uI] 181)=W0 at *;clear q0 q1 q2 q3 q4 c0 c1 c2 c3 c4;have HE1:=Xa e1;have hlt:w.heap.size<W0.heap.size:=oM;clear e1;have KEY:Hid (∀(ka fa:Option Addr)(W:World),Below W0.heap.size W0 W->YJ W W0.heap.size W.heap.size ka ([uA,uB].map Value.bool)->YJ W W0.heap.size W.heap.size fa ([⟨b,2,none⟩,⟨b,3,none⟩].map Ka)->Calls Tryz.prog 112 #[.slice ka 2 2,.slice fa 2 2] W fun e w5=>∃a5 c5 m5,e=.returned (.slice a5 m5 c5)/\w5.cell? ⟨w.heap.size,2,none⟩=some (.bool uA)/\w5.cell? ⟨w.heap.size,3,none⟩=some (.bool uB) /\
  Hid (Calls Tryz.prog 111 #[.slice a5 m5 c5] w5 fun e w'=>∃v,e=.returned v/\w'.cell? ⟨w.heap.size,2,none⟩=some (.bool uA)/\w'.cell? ⟨w.heap.size,3,none⟩=some (.bool uB)/\Hid (Below w.heap.size w w')/\Hid (w'.ownsRow w.heap.size 2 1 v vs.length (vs.map (Value.int .i64))))):=Xa (fun ka fa W hW hk hp=>by
  have hsz:=hW.size;refine(KM ka fa 2 2 [uA,uB] [⟨b,2,none⟩,⟨b,3,none⟩] W0.heap.size W.heap.size W (Nat.le_refl _) (Xa hk) (Xa hp) (Xa rfl) sP).mono ?_;rintro e w5 ⟨v5,rfl,hb5,ho5⟩;have s5:=hb5.size;have k5:Below W0.heap.size W0 w5:=Xe hW hb5;obtain⟨a5,c5,rfl,hv5⟩:=KO ho5;rw[List.length_map];have hbw:Below w.heap.size w w5:=HBW.trans (k5.mono oM);refine⟨a5,c5,_,rfl,(k5.cell (p:=⟨w.heap.size,2,none⟩) hlt).trans g2,(k5.cell (p:=⟨w.heap.size,3,none⟩) hlt).trans g3,Xa ?_⟩;have r2:=(hbw.cell (p:=⟨b,2,none⟩) hbl).trans HQ2.out;have r3:=(hbw.cell (p:=⟨b,3,none⟩) hbl).trans HQ3.out;have hb5l:b<w5.heap.size:=oM;refine(J8 a5 c5 (XP [uA,uB] [⟨b,2,none⟩,⟨b,3,none⟩]) vs W.heap.size w5.heap.size w5 (Nat.le_refl _) (Xa hv5) (Xa ?_) (Xa ?_) ?_).mono ?_
  ·rw[HRI.out];cases uA<;>cases uB<;>rfl
  ·intro i h h'
   have hvs:=HRI.out;subst hvs;cases uA<;>cases uB
   ·exact absurd h (by simp[XP])
   ·match i,h with
    | 0,_=>exact⟨hb5l,r3⟩
   ·match i,h with
    | 0,_=>exact⟨hb5l,r2⟩
   ·match i,h with
    | 0,_=>exact⟨hb5l,r2⟩
    | 1,_=>exact⟨hb5l,r3⟩
  ·cases uA<;>cases uB<;>simp[XP]
  ·rintro e w7 ⟨v7,rfl,hb7,ho7⟩
   have k7:=Xe k5 hb7;exact⟨v7,rfl,(k7.cell (p:=⟨w.heap.size,2,none⟩) hlt).trans g2,(k7.cell (p:=⟨w.heap.size,3,none⟩) hlt).trans g3,Xa (HBW.trans (k7.mono oM)),Xa (Je ho7 oM)⟩)
 have HCH1:=Xa (KEY.out (some ⟨W0.heap.size,0,none⟩) (some ⟨W0.heap.size+1,0,none⟩) ((W0.alloc (.cells #[.bool uA,.bool uB] 4)).alloc (.cells #[.pointer (some ⟨b,2,none⟩),.pointer (some ⟨b,3,none⟩)] 183)).drew (Xb (Xb (Below.refl W0.heap.size W0) _) _).drew (by rw[show((W0.alloc (.cells #[.bool uA,.bool uB] 4)).alloc (.cells #[.pointer (some ⟨b,2,none⟩),.pointer (some ⟨b,3,none⟩)] 183)).drew.heap.size=W0.heap.size+2 from by show((W0.alloc (.cells #[.bool uA,.bool uB] 4)).alloc (.cells #[.pointer (some ⟨b,2,none⟩),.pointer (some ⟨b,3,none⟩)] 183)).heap.size=_;simp];exact Z4 W0 [.bool uA,.bool uB] 4 [.pointer (some ⟨b,2,none⟩),.pointer (some ⟨b,3,none⟩)] 183) (by rw[show((W0.alloc (.cells #[.bool uA,.bool uB] 4)).alloc (.cells #[.pointer (some ⟨b,2,none⟩),.pointer (some ⟨b,3,none⟩)] 183)).drew.heap.size=W0.heap.size+2 from by show((W0.alloc (.cells #[.bool uA,.bool uB] 4)).alloc (.cells #[.pointer (some ⟨b,2,none⟩),.pointer (some ⟨b,3,none⟩)] 183)).heap.size=_;simp];exact Z3 W0 [.pointer (some ⟨b,2,none⟩),.pointer (some ⟨b,3,none⟩)] 183 [.bool uA,.bool uB] 4));have HCH2:=Xa (KEY.out (some ⟨W0.heap.size+1,0,none⟩) (some ⟨W0.heap.size,0,none⟩) ((W0.alloc (.cells #[.pointer (some ⟨b,2,none⟩),.pointer (some ⟨b,3,none⟩)] 183)).alloc (.cells #[.bool uA,.bool uB] 4)).drew (Xb (Xb (Below.refl W0.heap.size W0) _) _).drew (by rw[show((W0.alloc (.cells #[.pointer (some ⟨b,2,none⟩),.pointer (some ⟨b,3,none⟩)] 183)).alloc (.cells #[.bool uA,.bool uB] 4)).drew.heap.size=W0.heap.size+2 from by show((W0.alloc (.cells #[.pointer (some ⟨b,2,none⟩),.pointer (some ⟨b,3,none⟩)] 183)).alloc (.cells #[.bool uA,.bool uB] 4)).heap.size=_;simp];exact Z3 W0 [.bool uA,.bool uB] 4 [.pointer (some ⟨b,2,none⟩),.pointer (some ⟨b,3,none⟩)] 183) (by rw[show((W0.alloc (.cells #[.pointer (some ⟨b,2,none⟩),.pointer (some ⟨b,3,none⟩)] 183)).alloc (.cells #[.bool uA,.bool uB] 4)).drew.heap.size=W0.heap.size+2 from by show((W0.alloc (.cells #[.pointer (some ⟨b,2,none⟩),.pointer (some ⟨b,3,none⟩)] 183)).alloc (.cells #[.bool uA,.bool uB] 4)).heap.size=_;simp];exact Z4 W0 [.pointer (some ⟨b,2,none⟩),.pointer (some ⟨b,3,none⟩)] 183 [.bool uA,.bool uB] 4));clear KEY HBW HQ2 HQ3 HRI
 go_region_held3 (fun w'=>w'.cell? ⟨w.heap.size,2,none⟩=some (.bool uA)/\w'.cell? ⟨w.heap.size,3,none⟩=some (.bool uB)) (go_keep)
  (first
   | (go_at_call 112;with_reducible refine HCH1.out.mono ?_;rintro e w5 ⟨a5,c5,m5,rfl,f2,f3,HC5⟩)
   | (go_at_call 112;with_reducible refine HCH2.out.mono ?_;rintro e w5 ⟨a5,c5,m5,rfl,f2,f3,HC5⟩)
   | (go_at_call 111;with_reducible refine HC5.out.mono ?_;rintro e w7 ⟨v7,rfl,h2,h3,HB7,HO7⟩))
 all_goals
  go_wp2
  go_ret
  exact⟨_,rfl,HB7.out,HO7.out⟩
def rdT(x:ZX):List Int:=if x.kind != 1 then [x.a]else []
theorem VB(b o k:Nat)(a t l:Int)(w:World)(hi:Hid (Z0 w b o ⟨k,a,t,l⟩))(h1:1<=k)(h2:k<=3)(ht:Hid (XT w)) :
 Calls Tryz.prog 139 #[.pointer (some ⟨b,o,none⟩)] w fun e w'=>∃v,e=.returned v/\Below w.heap.size w w'/\w'.ownsRow w.heap.size 183 1 v (XP [(k:Int) != 1] [⟨b,o+1,none⟩]).length ((XP [(k:Int) != 1] [⟨b,o+1,none⟩]).map Ka):=by
 obtain⟨q0,q1,q2,q3⟩:=hi.out;simp only at q0 q1 q2 q3;obtain⟨c0,c1,c2,c3⟩:=ht.2 k h1 h2;have hz:=ht.1;have hbl:b<w.heap.size:=World.block_lt_of_cell? w _ q0;generalize ((k:Int) != 1)=uA at *;have KEY:Hid (∀(ka fa:Option Addr)(W:World),Below w.heap.size w W->YJ W w.heap.size W.heap.size ka ([uA].map Value.bool)->YJ W w.heap.size W.heap.size fa ([⟨b,o+1,none⟩].map Ka)->Calls Tryz.prog 112 #[.slice ka 1 1,.slice fa 1 1] W fun e w5=>∃v,e=.returned v/\Below w.heap.size w w5/\Hid (w5.ownsRow w.heap.size 183 1 v (XP [uA] [⟨b,o+1,none⟩]).length ((XP [uA] [⟨b,o+1,none⟩]).map Ka))):=Xa (fun ka fa W hW hk hp=>by
  have hsz:=hW.size;refine(KM ka fa 1 1 [uA] [⟨b,o+1,none⟩] w.heap.size W.heap.size W (Nat.le_refl _) (Xa hk) (Xa hp) (Xa rfl) sP).mono ?_;rintro e w5 ⟨v5,rfl,hb5,ho5⟩;exact⟨v5,rfl,Xe hW hb5,Xa (Je ho5 oM)⟩)
 have e2:∀x y,((w.alloc x).alloc y).drew.heap.size=w.heap.size+2:=fun x y=>by show((w.alloc x).alloc y).heap.size=_;simp
 have HCH1:=Xa (KEY.out (some ⟨w.heap.size,0,none⟩) (some ⟨w.heap.size+1,0,none⟩) ((w.alloc (.cells #[.bool uA] 4)).alloc (.cells #[.pointer (some ⟨b,o+1,none⟩)] 183)).drew (Xb (Xb (Below.refl w.heap.size w) _) _).drew (by rw[e2];exact Z4 w [.bool uA] 4 [.pointer (some ⟨b,o+1,none⟩)] 183) (by rw[e2];exact Z3 w [.pointer (some ⟨b,o+1,none⟩)] 183 [.bool uA] 4));have HCH2:=Xa (KEY.out (some ⟨w.heap.size+1,0,none⟩) (some ⟨w.heap.size,0,none⟩) ((w.alloc (.cells #[.pointer (some ⟨b,o+1,none⟩)] 183)).alloc (.cells #[.bool uA] 4)).drew (Xb (Xb (Below.refl w.heap.size w) _) _).drew (by rw[e2];exact Z3 w [.bool uA] 4 [.pointer (some ⟨b,o+1,none⟩)] 183) (by rw[e2];exact Z4 w [.pointer (some ⟨b,o+1,none⟩)] 183 [.bool uA] 4));clear e2 KEY q1 q2 q3 c0 c2 c3;have hk3:(k:Int)<=3:=oM;have hk0:(0:Int)<=(k:Int):=oM;have hk4:(k:Int)<4:=oM;have hk5:k<4:=oM
 go_enter Tryz.func139,Tryz.ntmps139
 go_wp2_with fail
 go_region_held3 (fun w'=>w'.cell? ⟨b,o,none⟩=some (.int .i64 (k:Int))/\w'.cell? ⟨2,k*4+1,none⟩=some (.bool uA)) (go_keep)
  (first
   | (go_at_call 112;with_reducible refine HCH1.out.mono ?_;rintro e w5 ⟨v5,rfl,hb5,HO5⟩;have f2:=(hb5.cell (p:=⟨b,o,none⟩) hbl).trans q0;have f3:=(hb5.cell (p:=⟨2,k*4+1,none⟩) hz).trans c1;have HB5:=Xa hb5;clear hb5)
   | (go_at_call 112;with_reducible refine HCH2.out.mono ?_;rintro e w5 ⟨v5,rfl,hb5,HO5⟩;have f2:=(hb5.cell (p:=⟨b,o,none⟩) hbl).trans q0;have f3:=(hb5.cell (p:=⟨2,k*4+1,none⟩) hz).trans c1;have HB5:=Xa hb5;clear hb5))
 all_goals
  go_wp2
  go_ret
  exact⟨v5,rfl,HB5.out,HO5.out⟩
theorem Zg2(b o k:Nat)(a t l:Int)(w:World)(hi:Hid (Z0 w b o ⟨k,a,t,l⟩))(h1:1<=k)(h2:k<=3)(ht:Hid (XT w)) :
 Calls Tryz.prog 126 #[.pointer (some ⟨b,o,none⟩)] w fun e w'=>∃v,e=.returned v/\Below w.heap.size w w'/\w'.ownsRow w.heap.size 2 1 v (rdT ⟨k,a,t,l⟩).length ((rdT ⟨k,a,t,l⟩).map (Value.int .i64)):=by
 have HC:=Xa (VB b o k a t l w hi h1 h2 ht);obtain⟨q0,q1,q2,q3⟩:=hi.out;simp only at q0 q1 q2 q3;have HQ1:=Xa q1;have HRT:Hid (rdT ⟨k,a,t,l⟩=if ((k:Int) != 1)then [a]else []):=Xa rfl;generalize rdT ⟨k,a,t,l⟩=vs at *;generalize ((k:Int) != 1)=uA at *;have hbl:b<w.heap.size:=World.block_lt_of_cell? w _ q0;clear q0 q1 q2 q3
 go_enter Tryz.func126,Tryz.ntmps126
 go_wp2_with fail
 refine HC.mono ?_;rintro e w5 ⟨v5,rfl,hb5,ho5⟩;obtain⟨a5,c5,rfl,hv5⟩:=KO ho5;rw[List.length_map];have r1:=(hb5.cell (p:=⟨b,o+1,none⟩) hbl).trans HQ1.out;have hb5l:b<w5.heap.size:=by have:=hb5.size;omega
 have HK:=Xa (J8 a5 c5 (XP [uA] [⟨b,o+1,none⟩]) vs w.heap.size w5.heap.size w5 (Nat.le_refl _) (Xa hv5) (Xa (by rw[HRT.out];cases uA<;>rfl)) (Xa (by
  intro i h h';have hvs:=HRT.out;subst hvs;cases uA
  ·exact absurd h (by simp[XP])
  ·match i,h with
   | 0,_=>exact⟨hb5l,r1⟩)) (by cases uA<;>simp[XP]))
 have HB5:=Xa hb5;clear hb5 ho5 hv5 r1;generalize (XP [uA] [⟨b,o+1,none⟩]).length=kl at *
 go_wp2_with fail
 refine HK.mono ?_;rintro e w7 ⟨v7,rfl,hb7,ho7⟩;have HB7:=Xa (Xe HB5.out hb7);have HO7:=Xa (Je ho7 HB5.size);clear hb7 ho7
 go_wp2_with fail
 go_ret
 exact⟨v7,rfl,HB7.out,HO7.out⟩
def writesI(x:YK):List Int:=if dB x.op then [x.dst]else []
theorem Ve(b k:Nat)(dst a bb imm:Int)(w:World)(hi:Hid (Y5 w b 0 ⟨k,dst,a,bb,imm⟩))(h1:1<=k)(h2:k<=13)(ht:Hid (Yf w)) :
 Calls Tryz.prog 62 #[.pointer (some ⟨b,0,none⟩)] w fun e w'=>∃v,e=.returned v/\Below w.heap.size w w'/\w'.ownsRow w.heap.size 2 1 v (writesI ⟨k,dst,a,bb,imm⟩).length ((writesI ⟨k,dst,a,bb,imm⟩).map (Value.int .i64)):=by
 obtain⟨q0,q1,q2,q3,q4⟩:=hi.out;simp only at q0 q1 q2 q3 q4;obtain⟨c0,c1,c2,c3,c4⟩:=ht.2 k h1 h2;have hz:=ht.1;have hbl:b<w.heap.size:=World.block_lt_of_cell? w _ q2;have HRI:Hid (writesI ⟨k,dst,a,bb,imm⟩=if dB (k:Int)then [dst]else []):=Xa rfl;generalize writesI ⟨k,dst,a,bb,imm⟩=vs at *;generalize dB (k:Int)=uD at *;have HQ1:=Xa q1;have KEY:Hid (∀(ka fa:Option Addr)(W:World),Below w.heap.size w W->YJ W w.heap.size W.heap.size ka ([uD].map Value.bool)->YJ W w.heap.size W.heap.size fa ([⟨b,1,none⟩].map Ka)->Calls Tryz.prog 112 #[.slice ka 1 1,.slice fa 1 1] W fun e w5=>∃a5 c5 m5,e=.returned (.slice a5 m5 c5)/\Below w.heap.size w w5 /\
  Hid (Calls Tryz.prog 111 #[.slice a5 m5 c5] w5 fun e w'=>∃v,e=.returned v/\Below w.heap.size w w'/\Hid (w'.ownsRow w.heap.size 2 1 v vs.length (vs.map (Value.int .i64))))):=Xa (fun ka fa W hW hk hp=>by
  have hsz:=hW.size;refine(KM ka fa 1 1 [uD] [⟨b,1,none⟩] w.heap.size W.heap.size W (Nat.le_refl _) (Xa hk) (Xa hp) (Xa rfl) sP).mono ?_;rintro e w5 ⟨v5,rfl,hb5,ho5⟩;have s5:=hb5.size;have k5:Below w.heap.size w w5:=Xe hW hb5;obtain⟨a5,c5,rfl,hv5⟩:=KO ho5;rw[List.length_map];refine⟨a5,c5,_,rfl,k5,Xa ?_⟩;have r1:=(k5.cell (p:=⟨b,1,none⟩) hbl).trans HQ1.out;have hb5l:b<w5.heap.size:=oM;refine(J8 a5 c5 (XP [uD] [⟨b,1,none⟩]) vs W.heap.size w5.heap.size w5 (Nat.le_refl _) (Xa hv5) (Xa ?_) (Xa ?_) ?_).mono ?_
  ·rw[HRI.out];cases uD<;>rfl
  ·intro i h h'
   have hvs:=HRI.out;subst hvs;cases uD
   ·exact absurd h (by simp[XP])
   ·match i,h with
    | 0,_=>exact⟨hb5l,r1⟩
  ·cases uD<;>simp[XP]
  ·rintro e w7 ⟨v7,rfl,hb7,ho7⟩
   exact⟨v7,rfl,Xe k5 hb7,Xa (Je ho7 oM)⟩)
 have e2:∀x y,((w.alloc x).alloc y).drew.heap.size=w.heap.size+2:=fun x y=>by show((w.alloc x).alloc y).heap.size=_;simp
 have HCH1:=Xa (KEY.out (some ⟨w.heap.size,0,none⟩) (some ⟨w.heap.size+1,0,none⟩) ((w.alloc (.cells #[.bool uD] 4)).alloc (.cells #[.pointer (some ⟨b,1,none⟩)] 183)).drew (Xb (Xb (Below.refl w.heap.size w) _) _).drew (by rw[e2];exact Z4 w [.bool uD] 4 [.pointer (some ⟨b,1,none⟩)] 183) (by rw[e2];exact Z3 w [.pointer (some ⟨b,1,none⟩)] 183 [.bool uD] 4));have HCH2:=Xa (KEY.out (some ⟨w.heap.size+1,0,none⟩) (some ⟨w.heap.size,0,none⟩) ((w.alloc (.cells #[.pointer (some ⟨b,1,none⟩)] 183)).alloc (.cells #[.bool uD] 4)).drew (Xb (Xb (Below.refl w.heap.size w) _) _).drew (by rw[e2];exact Z3 w [.bool uD] 4 [.pointer (some ⟨b,1,none⟩)] 183) (by rw[e2];exact Z4 w [.pointer (some ⟨b,1,none⟩)] 183 [.bool uD] 4));clear e2 KEY q1 q2 q3 q4 c0 c2 c3 c4 HQ1 HRI;have hk0:(0:Int)<=(k:Int):=oM;have hk13:(k:Int)<14:=oM
 go_enter Tryz.func62,Tryz.ntmps62
 go_wp2_with fail
 go_region_held3 (fun w'=>w'.cell? ⟨b,0,none⟩=some (.int .i64 (k:Int))/\w'.cell? ⟨0,k*5+1,none⟩=some (.bool uD)) (go_keep)
  (first
   | (go_at_call 112;with_reducible refine HCH1.out.mono ?_;rintro e w5 ⟨a5,c5,m5,rfl,hb5,HC5⟩;have f2:=(hb5.cell (p:=⟨b,0,none⟩) hbl).trans q0;have f3:=(hb5.cell (p:=⟨0,k*5+1,none⟩) hz).trans c1;clear hb5)
   | (go_at_call 112;with_reducible refine HCH2.out.mono ?_;rintro e w5 ⟨a5,c5,m5,rfl,hb5,HC5⟩;have f2:=(hb5.cell (p:=⟨b,0,none⟩) hbl).trans q0;have f3:=(hb5.cell (p:=⟨0,k*5+1,none⟩) hz).trans c1;clear hb5)
   | (go_at_call 111;with_reducible refine HC5.out.mono ?_;rintro e w7 ⟨v7,rfl,hb7,HO7⟩;have h2':=(hb7.cell (p:=⟨b,0,none⟩) hbl).trans q0;have h3':=(hb7.cell (p:=⟨0,k*5+1,none⟩) hz).trans c1;have HB7:=Xa hb7;clear hb7))
 all_goals
  go_wp2
  go_ret
  exact⟨v7,rfl,HB7.out,HO7.out⟩
theorem Tryz.infoVn:(Tryz.prog.info? 72).map (fun i=>(i.zero,i.size,i.bytes))=some (some (.int .i64 0),1,8):=kR
theorem Zo(a:Option Addr)(n c:Nat)(vs:List Int)(L B:Nat)(w:World)(ha:Hid (Xg w L B a vs))(hx:Hid (n=vs.length))(hn:n<=100000)(hB:B<=w.heap.size) :
 Calls Tryz.prog 125 #[.slice a n c] w fun e w'=>∃a' c',e=.returned (.slice a' vs.length c')/\Below w.heap.size w w'/\Xg w' w.heap.size w'.heap.size a' vs:=by
 obtain⟨i0,hi0,hz0,hz1,hz2⟩:=info_parts Tryz.infoVn;have HO0:Hid ((w.alloc (.cells #[] 72)).ownsRow w.heap.size 72 1 (.slice (some ⟨w.heap.size,0,none⟩) 0 0) 0 []):=Xa (World.ownsRow_lit (base:=w.heap.size) (e:=72) (size:=1) w #[] 0 sP sP rfl)
 go_enter Tryz.func125,Tryz.ntmps125
 go_wp2
 go_loopw [3,9] (fun u i wr=>∃k:Nat,k<=n/\i=.int .i64 k/\Below w.heap.size w wr/\Hid (wr.ownsRow w.heap.size 72 1 u k ((vs.take k).map (Value.int .i64)))) (fun _ i _=>n-(intOf i).toNat)
 case atStart=>exact⟨0,Nat.zero_le _,rfl,Xb (Below.refl _ _) _,HO0⟩
 case round =>
  obtain⟨k,hk,rfl,hw,HO⟩:=hrel;by_cases hlt:k<n
  ·have hkx:k<vs.length:=by have:=hx.out;omega
   obtain⟨b,o,rfl,⟨_,hbB⟩,hc⟩:=ha.out k hkx;have hcw:=(XD hw oM).trans hc;have HN:Hid (vs.take (k+1)=vs.take k++[vs[k]]):=Xa (Xr _ _ hkx);clear hc;generalize vs[k]=x at *;have hsz:=hw.size
   go_wp2_with (at_builtin;refine wpList_append_own _ rfl _ _ 159 rfl w.heap.size 72 i0 (.int .i64 0) 1 8 Tryz.underlying159 hi0 hz0 hz1 hz2 rfl vZ _ _ _ rfl (HO.alloc _) ⟨wr.heap.size,0,none⟩ 1 1 [.int .i64 x] rfl rfl ?c1 ?c2 ?c3 ?c4 ?c5 ?_)
   case c1 =>
    intro j u hj
    match j,hj with
    | 0,hj=>simp at hj;subst hj;simp[Addr.add]
   case c2=>intro u hu;simp at hu;subst hu;rfl
   case c3=>unfold maxLen;omega
   case c4=>omega
   case c5=>simp;omega
   intro v1 w1 hown1 hgrow1 _;have HO1:=Xa hown1;have HB1:=Xa (XI (Xb hw _) hgrow1 (HO.alloc _) (Nat.le_refl _) (by simp;omega));clear hown1 hgrow1;go_wp2;exact⟨⟨k+1,oM,gM,HB1.out,Xa (by rw[HN.out,Ys,List.map_take];exact HO1.out)⟩,by simp[intOf];omega⟩
  ·go_wp2
   go_ret
   have hown:=HO.out;rw[List.take_of_length_le (l:=vs) (i:=k) (by have:=hx.out;omega)]at hown;obtain⟨a1,c1,rfl,hi1⟩:=Xj hown;exact⟨_,_,rfl,hw,hi1⟩
theorem U2{m m' l l':Nat}{P:Program}{args:Array Value}{W:World}{R:Ending->World->Prop}(h:YieldAt Fence.wide m P l args W R):YieldAt (Fence.wide.inRound l') m' P l args W R:=by
 obtain⟨fn,tmps,asg,bo,h1,h2⟩:=h;exact⟨fn,tmps,asg,bo,h1,h2.1,fun c cs _=>h2.2 c cs (room_wide _)⟩
structure Pl where
 i:Nat
 ua:Option Addr
 uc:Nat
 us:List Int
 da:Option Addr
 dc:Nat
 ds:List Int
def Pl.dat(p:Pl):Nat × List Int × List Int:=(p.i,p.us,p.ds)
def ZcS(p:Pl):Array Value:=#[.int .i64 (p.i:Int),.agg #[.slice p.ua p.us.length p.uc,.slice p.da p.ds.length p.dc]]
def Zf4(n₀:Nat)(Pd:Nat × List Int × List Int->Prop)(p:Pl)(V:World):Prop:=Pd p.dat/\Xg V n₀ V.heap.size p.ua p.us/\Xg V n₀ V.heap.size p.da p.ds
def Vw(x:Xi)(j:Fin x.instrs.length):Nat × List Int × List Int:=((j:Nat)+1,rdI (x.instrs[j]),writesI (x.instrs[j]))
def plL(x:Xi):List (Nat × List Int × List Int):=(x.instrs.length+1,rdT x.term,[])::((T4 x.instrs.length 0).map (Vw x)++[(0,[],x.phis.map Ph.dst)])
theorem Zdh(x:Xi)(j:Fin x.instrs.length):Vw x j∈plL x:=by
 refine List.mem_cons_of_mem _ (List.mem_append_left _ (List.mem_map_of_mem ?_));unfold T4;rw[List.take_of_length_le sP];exact List.mem_reverse.2 (List.mem_finRange j)
theorem Zb4(x:Xi):((0:Nat),([]:List Int),x.phis.map Ph.dst)∈plL x:=List.mem_cons_of_mem _ (List.mem_append_right _ (List.mem_singleton.2 rfl))
theorem Yf.of_block{V V':World}(h:Yf V)(e:V'.heap[(0 : Nat)]?=V.heap[(0 : Nat)]?)(hs:V.heap.size<=V'.heap.size):Yf V':=by
 refine⟨Nat.lt_of_lt_of_le h.1 hs,fun i h1 h2=>?_⟩;have e:=fun o=>Xc (o:=o) e
 simp only[e];exact h.2 i h1 h2
theorem XT.of_block{V V':World}(h:XT V)(e:V'.heap[(2 : Nat)]?=V.heap[(2 : Nat)]?)(hs:V.heap.size<=V'.heap.size):XT V':=by
 refine⟨Nat.lt_of_lt_of_le h.1 hs,fun i h1 h2=>?_⟩;have e:=fun o=>Xc (o:=o) e
 simp only[e];exact h.2 i h1 h2
structure Stc(x:Xi)(L B Bx n₀:Nat)(V:World):Prop where
 op:Yf V
 ter:XT V
 blk:Y8 V L B Bx 0 x
 lt:Bx<n₀
 le:B<=n₀
 g1:0 < n₀
 g2:2 < n₀
theorem Stc.same{x:Xi}{L B Bx n₀:Nat}{V V':World}(h:Stc x L B Bx n₀ V)(e:∀k,k<n₀->V'.heap[k]?=V.heap[k]?)(hs:V.heap.size<=V'.heap.size):Stc x L B Bx n₀ V' :=
 ⟨h.op.of_block (e _ h.g1) hs,h.ter.of_block (e _ h.g2) hs,h.blk.keepS (fun k _ h2=>e k (Nat.lt_of_lt_of_le h2 h.le)) (e _ h.lt),h.lt,h.le,h.g1,h.g2⟩
theorem Stc.below{x:Xi}{L B Bx n₀:Nat}{V V':World}(h:Stc x L B Bx n₀ V)(k:Below V.heap.size V V')(hn:n₀<=V.heap.size):Stc x L B Bx n₀ V':=h.same (fun i hi=>k.block i oM) k.size
theorem Stc.kp{x:Xi}{L B Bx n₀:Nat}{Ms:Nat->Prop}{V V':World}(h:Stc x L B Bx n₀ V)(k:Zy n₀ Ms V V')(hM:∀k,L<=k->k<B->¬Ms k)(hMx:¬Ms Bx)(hM1:¬Ms 0)(hM2:¬Ms 2):Stc x L B Bx n₀ V' :=
 ⟨h.op.of_block (k.low _ h.g1 hM1) k.size,h.ter.of_block (k.low _ h.g2 hM2) k.size,h.blk.keepS (fun i h1 h2=>k.low i (Nat.lt_of_lt_of_le h2 h.le) (hM i h1 h2)) (k.low _ h.lt hMx),h.lt,h.le,h.g1,h.g2⟩
theorem Yk{β:Type}{B:Nat}{J:β->World->Prop}(hJ:OwnFrom B J){s:β}{V V':World}(h:J s V)(k:Below V.heap.size V V'):J s V' :=
 hJ s V V' none h ⟨k.os,k.tape,k.output,k.size,fun i hi _=>k.block i hi⟩ (fun r e=>by cases e)
theorem Zj{F:Fence}{n:Nat}{P:Program}{fn:Func}{tmps:Array Value}{R:Ending->World->Prop}{D:Nat}{W:World}(hD:W.heap[D]?=some (.deferred (some [])))(h:∃v,(results fn tmps).run P (W.putObj D (.deferred none))=.ok v (W.putObj D (.deferred none))/\R (.returned v) (W.putObj D (.deferred none))):LeavesInM F n P fn tmps R [{ target:=.collected D,args:=#[] }] .returning W :=
 ⟨sP,Or.inl ⟨D,_,rfl,run_takeDeferred hD,h⟩⟩
theorem Zat(y:YK):(rdI y).length<=2:=by unfold rdI;split<;>split<;>simp
end Go.Proofs.YthgikffcdgpgiaaGreatDoor
