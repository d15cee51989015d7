import Derived.Test.YtbofmlmdgkblkaaDoorRFN
import Derived.Test.YtbofmlmdgkblkaaDoorOHI
import Derived.Test.YtbofmlmdgkblkaaDoorW15
namespace Go.Proofs.YtbofmlmdgkblkaaDoor
set_option maxHeartbeats 1000000
set_option maxRecDepth 100000
open Go.RowKit
def K5(p:Addr):Value:=.pointer (some p)
def XX:List Bool->List Addr->List Addr
 | k::ks,p::ps=>if k then p::XX ks ps else XX ks ps
 | _,_=>[]
theorem ZcE(ks:List Bool)(ps:List Addr)(k:Bool)(p:Addr)(h:ks.length=ps.length):XX (ks++[k]) (ps++[p])=XX ks ps++(if k then [p]else []):=by
 induction ks generalizing ps with
 | nil=>cases ps with
  | nil=>cases k<;>rfl
  | cons q r=>simp at h
 | cons x r ih=>cases ps with
  | nil=>simp at h
  | cons q s=>cases x<;>simp[XX,ih s (by simpa using h)]
theorem ZdD(ks:List Bool)(ps:List Addr):(XX ks ps).length<=ps.length:=by
 induction ks generalizing ps with
 | nil=>simp[XX]
 | cons x r ih=>cases ps with
  | nil=>simp[XX]
  | cons q s=>have:=ih s;cases x<;>simp[XX]<;>omega
theorem Tryd.infoPtr:(Tryd.prog.info? 147).map (fun i=>(i.zero,i.size,i.bytes))=some (some (.pointer none),1,8):=by kernel_rfl
theorem Zen(l:List Addr)(v:Addr):(l++[v]).map K5=l.map K5++[K5 v]:=by simp
theorem ZbY(w:World):(w.alloc (.cells #[] 147)).ownsRow w.heap.size 147 1 (.slice (some ⟨w.heap.size,0,none⟩) 0 0) 0 []:=by
 have:=World.ownsRow_lit (base:=w.heap.size) (e:=147) (size:=1) w #[] 0 (by simp) (by simp) rfl;simpa using this
theorem Tt(ka fa:Option Addr)(kc fc:Nat)(ks:List Bool)(ps:List Addr)(L B:Nat)(w:World)(hB:B<=w.heap.size)(hk:Hid (Zf w L B ka (ks.map Value.bool)))(hp:Hid (Zf w L B fa (ps.map K5)))(hl:Hid (ks.length=ps.length))(hs:ps.length<=1000) :
 Calls Tryd.prog 85 #[.slice ka ks.length kc,.slice fa ps.length fc] w fun e w'=>∃v,e=.returned v/\Below w.heap.size w w'/\w'.ownsRow w.heap.size 147 1 v (XX ks ps).length ((XX ks ps).map K5):=by
 obtain⟨i0,hi0,hz0,hz1,hz2⟩:=info_parts Tryd.infoPtr
 go_enter Tryd.func85,Tryd.ntmps85
 go_wp2
 go_loopw [5,11] (fun v i wr=>∃k:Nat,k<=ps.length/\i=.int .i64 k/\Hid (Below w.heap.size w wr)/\Hid (wr.ownsRow w.heap.size 147 1 v (XX (ks.take k) (ps.take k)).length ((XX (ks.take k) (ps.take k)).map K5))) (fun _ i _=>ps.length-(intOf i).toNat)
 case atStart=>exact⟨0,Nat.zero_le _,rfl,Xa (Xb (Below.refl _ _) _),Xa (by simpa [XX]using ZbY w)⟩
 case round =>
  obtain⟨k,hk',rfl,HB,HO⟩:=hrel;have hwz:=HB.size;by_cases hlt:k<ps.length
  ·have hkk:k<ks.length:=by have:=hl.out;omega
   obtain⟨b1,o1,rfl,⟨_,hb1⟩,hc1⟩:=(hk.keepS (Yp.of_below (HB.mono hB))) k (by simpa using hkk);obtain⟨b2,o2,rfl,⟨_,hb2⟩,hc2⟩:=(hp.keepS (Yp.of_below (HB.mono hB))) k (by simpa using hlt);rw[List.getElem_map]at hc1 hc2;unfold K5 at hc2;have HT:Hid (XX (ks.take (k+1)) (ps.take (k+1))=XX (ks.take k) (ps.take k)++(if ks[k]then [ps[k]]else [])):=Xa (by rw[List.take_succ_eq_append_getElem hkk,List.take_succ_eq_append_getElem hlt,ZcE _ _ _ _ (by simp only[List.length_take];omega)]);have HL:Hid ((XX (ks.take k) (ps.take k)).length+1<=2000):=Xa (by have:=ZdD (ks.take k) (ps.take k);simp only[List.length_take]at this;omega);generalize ks[k]=K at *;generalize ps[k]=p at *;cases K with
   | false =>
    have HO1:Hid (wr.ownsRow w.heap.size 147 1 u5 (XX (ks.take (k+1)) (ps.take (k+1))).length ((XX (ks.take (k+1)) (ps.take (k+1))).map K5)):=Xa (by rw[HT.out];simpa using HO.out);go_wp2;exact⟨⟨k+1,by omega,by go_num,HB,HO1⟩,by simp[intOf];omega⟩
   | true =>
    have HT':Hid (XX (ks.take (k+1)) (ps.take (k+1))=XX (ks.take k) (ps.take k)++[p]):=Xa (by have:=HT.out;simpa using this)
    go_wp2_with (at_builtin;refine wpList_append_own_at _ rfl _ _ 142 rfl w.heap.size 147 i0 (.pointer none) 1 8 Tryd.underlying142 hi0 hz0 hz1 hz2 rfl (by decide) _ _ _ rfl (HO.alloc _) ⟨wr.heap.size,0,none⟩ 1 1 [.pointer (some p)] rfl rfl ?c1 ?c2 ?c3 ?c4 ?c5 ?_)
    case c2=>first | rfl | simp | (intro u hu;simp at hu;subst hu;rfl)
    case c3=>have:=HL.out;unfold maxLen;omega
    case c4=>have:=HL.out;omega
    case c5=>first | omega | (simp;omega)
    intro v1 w1 hown1 hgrow1 hne1 hat1;have HO1:Hid (w1.ownsRow w.heap.size 147 1 v1 (XX (ks.take (k+1)) (ps.take (k+1))).length ((XX (ks.take (k+1)) (ps.take (k+1))).map K5)):=Xa (by rw[HT'.out,Zen,List.length_append];exact hown1);have HB1:Hid (Below w.heap.size w w1):=Xa (XG ((HB.out).alloc (by omega) _) hgrow1 (HO.alloc _) (Nat.le_refl _) (by simp;omega));clear hown1 hgrow1 hne1 hat1;go_wp2;exact⟨⟨k+1,by omega,by go_num,HB1,HO1⟩,by simp[intOf];omega⟩
  ·have HO2:Hid (wr.ownsRow w.heap.size 147 1 u5 (XX ks ps).length ((XX ks ps).map K5)):=Xa (by have:=HO.out;have e:=hl.out;rwa[List.take_of_length_le (by omega),List.take_of_length_le (by omega)]at this)
   go_wp2
   go_ret
   exact⟨_,rfl,HB.out,HO2.out⟩
theorem JV(fa:Option Addr)(fc:Nat)(ps:List Addr)(vs:List Int)(L B:Nat)(w:World)(hB:B<=w.heap.size)(hp:Hid (Zf w L B fa (ps.map K5)))(hl:Hid (vs.length=ps.length))(hv:Hid (∀i (h:i<ps.length) (h':i<vs.length),ps[i].block<w.heap.size/\w.cell? ps[i]=some (.int .i64 vs[i])))(hs:ps.length<=1000) :
 Calls Tryd.prog 82 #[.slice fa ps.length fc] w fun e w'=>∃v,e=.returned v/\Below w.heap.size w w'/\w'.ownsRow w.heap.size 2 1 v vs.length (vs.map (Value.int .i64)):=by
 obtain⟨i0,hi0,hz0,hz1,hz2⟩:=info_parts Tryd.info2'
 go_enter Tryd.func82,Tryd.ntmps82
 go_wp2
 go_loopw [3,9] (fun v i wr=>∃k:Nat,k<=ps.length/\i=.int .i64 k/\Hid (Below w.heap.size w wr)/\Hid (wr.ownsRow w.heap.size 2 1 v (vs.take k).length ((vs.take k).map (Value.int .i64)))) (fun _ i _=>ps.length-(intOf i).toNat)
 case atStart=>exact⟨0,Nat.zero_le _,rfl,Xa (Xb (Below.refl _ _) _),Xa (by
  have:=World.ownsRow_lit (base:=w.heap.size) (e:=2) (size:=1) w #[] 0 (by simp) (by simp) rfl;simpa using this)⟩
 case round =>
  obtain⟨k,hk',rfl,HB,HO⟩:=hrel;have hwz:=HB.size;by_cases hlt:k<ps.length
  ·have hkk:k<vs.length:=by have:=hl.out;omega
   obtain⟨b2,o2,rfl,⟨_,hb2⟩,hc2⟩:=(hp.keepS (Yp.of_below (HB.mono hB))) k (by simpa using hlt);rw[List.getElem_map]at hc2;unfold K5 at hc2;obtain⟨hq1,hq2⟩:=hv.out k hlt hkk;have hc3:=(HB.cell (p:=ps[k]) hq1).trans hq2;have HT:Hid ((vs.take (k+1))=vs.take k++[vs[k]]):=Xa (List.take_succ_eq_append_getElem hkk);have HL:Hid ((vs.take k).length+1<=2000):=Xa (by have:=hl.out;simp only[List.length_take];omega);clear hq1 hq2;generalize vs[k]=V at *;generalize ps[k]=p at *
   go_wp2_with (at_builtin;refine wpList_append_own_at _ rfl _ _ 40 rfl w.heap.size 2 i0 (.int .i64 0) 1 8 Tryd.underlying40 hi0 hz0 hz1 hz2 rfl (by decide) _ _ _ rfl (HO.alloc _) ⟨wr.heap.size,0,none⟩ 1 1 [.int .i64 V] rfl rfl ?c1 ?c2 ?c3 ?c4 ?c5 ?_)
   case c1=>exact cell_one_new _ _ _
   case c2=>intro u hu;simp at hu;subst hu;rfl
   case c3=>have:=HL.out;unfold maxLen;omega
   case c4=>have:=HL.out;omega
   case c5=>simp;omega
   intro v1 w1 hown1 hgrow1 hne1 hat1;have HO1:Hid (w1.ownsRow w.heap.size 2 1 v1 (vs.take (k+1)).length ((vs.take (k+1)).map (Value.int .i64))):=Xa (by
    rw[HT.out,Zcl,List.length_append,List.map_take,List.length_take];exact hown1)
   have HB1:Hid (Below w.heap.size w w1):=Xa (XG ((HB.out).alloc (by omega) _) hgrow1 (HO.alloc _) (Nat.le_refl _) (by simp;omega));clear hown1 hgrow1 hne1 hat1;go_wp2;exact⟨⟨k+1,by omega,by go_num,HB1,HO1⟩,by simp[intOf];omega⟩
  ·have HO2:Hid (wr.ownsRow w.heap.size 2 1 u3 vs.length (vs.map (Value.int .i64))):=Xa (by have:=HO.out;have e:=hl.out;rwa[List.take_of_length_le (by omega)]at this)
   go_wp2
   go_ret
   exact⟨_,rfl,HB.out,HO2.out⟩
end Go.Proofs.YtbofmlmdgkblkaaDoor
namespace Go.Proofs.YtbofmlmdgkblkaaDoor
open Go.RowKit
def iB(op:Int):Bool:=decide (op<=2)
def Zjg(k:Int):List UInt8:=if k=1 then [106,117,109,112]else if k=3 then [114,101,116]else [98,114,97,110,99,104]
def YG(w:World):Prop:=0 < w.heap.size/\∀k:Nat,1<=k->k<=13->w.cell? ⟨0,k*5,none⟩=some (.string (JJ (WT k)))/\w.cell? ⟨0,k*5+1,none⟩=some (.bool (dB k))/\w.cell? ⟨0,k*5+2,none⟩=some (.bool (aB k)) /\
 w.cell? ⟨0,k*5+3,none⟩=some (.bool (bB k))/\w.cell? ⟨0,k*5+4,none⟩=some (.bool (iB k))
def Ym(w:World):Prop:=1 < w.heap.size/\∀k:Nat,1<=k->k<=3->w.cell? ⟨1,k*4,none⟩=some (.string (JJ (Zjg k)))/\w.cell? ⟨1,k*4+1,none⟩=some (.bool ((k:Int) != 1))/\w.cell? ⟨1,k*4+2,none⟩=some (.bool ((k:Int) != 3)) /\
 w.cell? ⟨1,k*4+3,none⟩=some (.bool ((k:Int)==2))
theorem YG.keep{w w':World}{B:Nat}(h:YG w)(k:Below B w w')(hB:0 < B):YG w':=by
 refine⟨Nat.lt_of_lt_of_le h.1 k.size,fun i h1 h2=>?_⟩;have e:=fun o=>Xc (o:=o) (k.block 0 hB)
 obtain⟨c0,c1,c2,c3,c4⟩:=h.2 i h1 h2;exact⟨(e _).trans c0,(e _).trans c1,(e _).trans c2,(e _).trans c3,(e _).trans c4⟩
theorem Ym.keep{w w':World}{B:Nat}(h:Ym w)(k:Below B w w')(hB:1 < B):Ym w':=by
 refine⟨Nat.lt_of_lt_of_le h.1 k.size,fun i h1 h2=>?_⟩;have e:=fun o=>Xc (o:=o) (k.block 1 hB)
 obtain⟨c0,c1,c2,c3⟩:=h.2 i h1 h2;exact⟨(e _).trans c0,(e _).trans c1,(e _).trans c2,(e _).trans c3⟩
theorem YG.old{w:World}(h:YG w):TV w:=⟨h.1,fun k h1 h2=>by
 obtain⟨c0,c1,c2,c3,c4⟩:=h.2 k h1 h2;exact⟨_,c0,c1,c2,c3,_,c4⟩⟩
theorem Ym.old{w:World}(h:Ym w):To w:=⟨h.1,fun k h1 h2=>by
 obtain⟨c0,c1,c2,c3⟩:=h.2 k h1 h2;exact⟨_,c0,c1,c2,c3⟩⟩
theorem Jf(w:World)(vs:List Value)(t:TypeId)(us:List Value)(t':TypeId):Zf ((w.alloc (.cells vs.toArray t)).alloc (.cells us.toArray t')).drew w.heap.size (w.heap.size+2) (some ⟨w.heap.size,0,none⟩) vs:=fun i hi =>
 ⟨_,0,rfl,⟨Nat.le_refl _,by omega⟩,by
  obtain⟨b,o,e,_,h⟩:=ZbC w vs t i hi;cases e;exact(Xc (Below.heap_alloc _ _ _ (by simp))).trans h⟩
theorem Jb(w:World)(vs:List Value)(t:TypeId)(us:List Value)(t':TypeId):Zf ((w.alloc (.cells us.toArray t')).alloc (.cells vs.toArray t)).drew w.heap.size (w.heap.size+2) (some ⟨w.heap.size+1,0,none⟩) vs:=fun i hi =>
 ⟨_,0,rfl,⟨by omega,by omega⟩,by
  obtain⟨b,o,e,_,h⟩:=ZbC (w.alloc (.cells us.toArray t')) vs t i hi;have e1:(w.alloc (.cells us.toArray t')).heap.size=w.heap.size+1:=by simp
  rw[e1]at e;cases e;exact h⟩
end Go.Proofs.YtbofmlmdgkblkaaDoor
namespace Go.Proofs.YtbofmlmdgkblkaaDoor
set_option maxHeartbeats 2000000
set_option maxRecDepth 100000
open Go.RowKit
def rdI(x:XS):List Int:=(if aB x.op then [x.a]else [])++(if bB x.op then [x.b]else [])
theorem Zdi(b k:Nat)(dst a bb imm:Int)(w:World)(hi:Hid (ZU w b 0 ⟨k,dst,a,bb,imm⟩))(h1:1<=k)(h2:k<=13)(ht:Hid (YG w)) :
 Calls Tryd.prog 68 #[.pointer (some ⟨b,0,none⟩)] w fun e w'=>∃v,e=.returned v/\Below w.heap.size w w'/\w'.ownsRow w.heap.size 2 1 v (rdI ⟨k,dst,a,bb,imm⟩).length ((rdI ⟨k,dst,a,bb,imm⟩).map (Value.int .i64)):=by
 obtain⟨q0,q1,q2,q3,q4⟩:=hi.out;simp only at q0 q1 q2 q3 q4;obtain⟨c0,c1,c2,c3,c4⟩:=ht.2 k h1 h2;have hz:=ht.1;have hbl:b<w.heap.size:=World.block_lt_of_cell? w _ q2;have HRI:Hid (rdI ⟨k,dst,a,bb,imm⟩=(if aB (k:Int)then [a]else [])++(if bB (k:Int)then [bb]else [])):=Xa rfl;generalize rdI ⟨k,dst,a,bb,imm⟩=vs at *;generalize dB (k:Int)=uD at *;generalize aB (k:Int)=uA at *;generalize bB (k:Int)=uB at *;generalize iB (k:Int)=uI at *;have HQ2:=Xa q2;have HQ3:=Xa q3
 go_enter Tryd.func68,Tryd.ntmps68
 go_wp2_with fail
 have e1:(w.alloc (.cells #[.string (JJ (WT k)),.bool uD,.bool uA,.bool uB,.bool uI] 115)).heap.size=w.heap.size+1:=by simp
 have g2:(w.alloc (.cells #[.string (JJ (WT k)),.bool uD,.bool uA,.bool uB,.bool uI] 115)).cell? ⟨w.heap.size,2,none⟩=some (.bool uA):=by simp
 have g3:(w.alloc (.cells #[.string (JJ (WT k)),.bool uD,.bool uA,.bool uB,.bool uI] 115)).cell? ⟨w.heap.size,3,none⟩=some (.bool uB):=by simp
 have HBW:Hid (Below w.heap.size w (w.alloc (.cells #[.string (JJ (WT k)),.bool uD,.bool uA,.bool uB,.bool uI] 115))):=Xa (Xb (Below.refl _ _) _);generalize w.alloc (.cells #[.string (JJ (WT k)),.bool uD,.bool uA,.bool uB,.bool uI] 115)=W0 at *;clear q0 q1 q2 q3 q4 c0 c1 c2 c3 c4;have HE1:=Xa e1;have hlt:w.heap.size<W0.heap.size:=by omega
 clear e1;have KEY:Hid (∀(ka fa:Option Addr)(W:World),Below W0.heap.size W0 W->Zf W W0.heap.size W.heap.size ka ([uA,uB].map Value.bool)->Zf W W0.heap.size W.heap.size fa ([⟨b,2,none⟩,⟨b,3,none⟩].map K5)->Calls Tryd.prog 85 #[.slice ka 2 2,.slice fa 2 2] W fun e w5=>∃a5 c5 m5,e=.returned (.slice a5 m5 c5)/\w5.cell? ⟨w.heap.size,2,none⟩=some (.bool uA)/\w5.cell? ⟨w.heap.size,3,none⟩=some (.bool uB) /\
  Hid (Calls Tryd.prog 82 #[.slice a5 m5 c5] w5 fun e w'=>∃v,e=.returned v/\w'.cell? ⟨w.heap.size,2,none⟩=some (.bool uA)/\w'.cell? ⟨w.heap.size,3,none⟩=some (.bool uB)/\Hid (Below w.heap.size w w')/\Hid (w'.ownsRow w.heap.size 2 1 v vs.length (vs.map (Value.int .i64))))):=Xa (fun ka fa W hW hk hp=>by
  have hsz:=hW.size;refine(Tt ka fa 2 2 [uA,uB] [⟨b,2,none⟩,⟨b,3,none⟩] W0.heap.size W.heap.size W (Nat.le_refl _) (Xa hk) (Xa hp) (Xa rfl) (by simp)).mono ?_;rintro e w5 ⟨v5,rfl,hb5,ho5⟩;have s5:=hb5.size;have k5:Below W0.heap.size W0 w5:=Xj hW hb5;obtain⟨a5,c5,rfl,hv5⟩:=Tr ho5;rw[List.length_map];have hbw:Below w.heap.size w w5:=HBW.trans (k5.mono (by omega));refine⟨a5,c5,_,rfl,(k5.cell (p:=⟨w.heap.size,2,none⟩) hlt).trans g2,(k5.cell (p:=⟨w.heap.size,3,none⟩) hlt).trans g3,Xa ?_⟩;have r2:=(hbw.cell (p:=⟨b,2,none⟩) hbl).trans HQ2.out;have r3:=(hbw.cell (p:=⟨b,3,none⟩) hbl).trans HQ3.out;have hb5l:b<w5.heap.size:=by omega
  refine(JV a5 c5 (XX [uA,uB] [⟨b,2,none⟩,⟨b,3,none⟩]) vs W.heap.size w5.heap.size w5 (Nat.le_refl _) (Xa hv5) (Xa ?_) (Xa ?_) ?_).mono ?_
  ·rw[HRI.out];cases uA<;>cases uB<;>rfl
  ·intro i h h'
   have hvs:=HRI.out;subst hvs;cases uA<;>cases uB
   ·exact absurd h (by simp[XX])
   ·match i,h with
    | 0,_=>exact⟨hb5l,r3⟩
   ·match i,h with
    | 0,_=>exact⟨hb5l,r2⟩
   ·match i,h with
    | 0,_=>exact⟨hb5l,r2⟩
    | 1,_=>exact⟨hb5l,r3⟩
  ·cases uA<;>cases uB<;>simp[XX]
  ·rintro e w7 ⟨v7,rfl,hb7,ho7⟩
   have k7:=Xj k5 hb7;exact⟨v7,rfl,(k7.cell (p:=⟨w.heap.size,2,none⟩) hlt).trans g2,(k7.cell (p:=⟨w.heap.size,3,none⟩) hlt).trans g3,Xa (HBW.trans (k7.mono (by omega))),Xa (YW ho7 (by omega))⟩)
 have HCH1:=Xa (KEY.out (some ⟨W0.heap.size,0,none⟩) (some ⟨W0.heap.size+1,0,none⟩) ((W0.alloc (.cells #[.bool uA,.bool uB] 4)).alloc (.cells #[.pointer (some ⟨b,2,none⟩),.pointer (some ⟨b,3,none⟩)] 147)).drew (Xb (Xb (Below.refl W0.heap.size W0) _) _).drew (by rw[show((W0.alloc (.cells #[.bool uA,.bool uB] 4)).alloc (.cells #[.pointer (some ⟨b,2,none⟩),.pointer (some ⟨b,3,none⟩)] 147)).drew.heap.size=W0.heap.size+2 from by show((W0.alloc (.cells #[.bool uA,.bool uB] 4)).alloc (.cells #[.pointer (some ⟨b,2,none⟩),.pointer (some ⟨b,3,none⟩)] 147)).heap.size=_;simp];exact Jf W0 [.bool uA,.bool uB] 4 [.pointer (some ⟨b,2,none⟩),.pointer (some ⟨b,3,none⟩)] 147) (by rw[show((W0.alloc (.cells #[.bool uA,.bool uB] 4)).alloc (.cells #[.pointer (some ⟨b,2,none⟩),.pointer (some ⟨b,3,none⟩)] 147)).drew.heap.size=W0.heap.size+2 from by show((W0.alloc (.cells #[.bool uA,.bool uB] 4)).alloc (.cells #[.pointer (some ⟨b,2,none⟩),.pointer (some ⟨b,3,none⟩)] 147)).heap.size=_;simp];exact Jb W0 [.pointer (some ⟨b,2,none⟩),.pointer (some ⟨b,3,none⟩)] 147 [.bool uA,.bool uB] 4));have HCH2:=Xa (KEY.out (some ⟨W0.heap.size+1,0,none⟩) (some ⟨W0.heap.size,0,none⟩) ((W0.alloc (.cells #[.pointer (some ⟨b,2,none⟩),.pointer (some ⟨b,3,none⟩)] 147)).alloc (.cells #[.bool uA,.bool uB] 4)).drew (Xb (Xb (Below.refl W0.heap.size W0) _) _).drew (by rw[show((W0.alloc (.cells #[.pointer (some ⟨b,2,none⟩),.pointer (some ⟨b,3,none⟩)] 147)).alloc (.cells #[.bool uA,.bool uB] 4)).drew.heap.size=W0.heap.size+2 from by show((W0.alloc (.cells #[.pointer (some ⟨b,2,none⟩),.pointer (some ⟨b,3,none⟩)] 147)).alloc (.cells #[.bool uA,.bool uB] 4)).heap.size=_;simp];exact Jb W0 [.bool uA,.bool uB] 4 [.pointer (some ⟨b,2,none⟩),.pointer (some ⟨b,3,none⟩)] 147) (by rw[show((W0.alloc (.cells #[.pointer (some ⟨b,2,none⟩),.pointer (some ⟨b,3,none⟩)] 147)).alloc (.cells #[.bool uA,.bool uB] 4)).drew.heap.size=W0.heap.size+2 from by show((W0.alloc (.cells #[.pointer (some ⟨b,2,none⟩),.pointer (some ⟨b,3,none⟩)] 147)).alloc (.cells #[.bool uA,.bool uB] 4)).heap.size=_;simp];exact Jf W0 [.pointer (some ⟨b,2,none⟩),.pointer (some ⟨b,3,none⟩)] 147 [.bool uA,.bool uB] 4));clear KEY HBW HQ2 HQ3 HRI
 go_region_held3 (fun w'=>w'.cell? ⟨w.heap.size,2,none⟩=some (.bool uA)/\w'.cell? ⟨w.heap.size,3,none⟩=some (.bool uB)) (go_keep)
  (first
   | (go_at_call 85;with_reducible refine HCH1.out.mono ?_;rintro e w5 ⟨a5,c5,m5,rfl,f2,f3,HC5⟩)
   | (go_at_call 85;with_reducible refine HCH2.out.mono ?_;rintro e w5 ⟨a5,c5,m5,rfl,f2,f3,HC5⟩)
   | (go_at_call 82;with_reducible refine HC5.out.mono ?_;rintro e w7 ⟨v7,rfl,h2,h3,HB7,HO7⟩))
 all_goals
  go_wp2
  go_ret
  exact⟨_,rfl,HB7.out,HO7.out⟩
def rdT(x:XZ):List Int:=if x.kind != 1 then [x.a]else []
theorem Wl(b o k:Nat)(a t l:Int)(w:World)(hi:Hid (TX w b o ⟨k,a,t,l⟩))(h1:1<=k)(h2:k<=3)(ht:Hid (Ym w)) :
 Calls Tryd.prog 83 #[.pointer (some ⟨b,o,none⟩)] w fun e w'=>∃v,e=.returned v/\Below w.heap.size w w'/\w'.ownsRow w.heap.size 147 1 v (XX [(k:Int) != 1] [⟨b,o+1,none⟩]).length ((XX [(k:Int) != 1] [⟨b,o+1,none⟩]).map K5):=by
 obtain⟨q0,q1,q2,q3⟩:=hi.out;simp only at q0 q1 q2 q3;obtain⟨c0,c1,c2,c3⟩:=ht.2 k h1 h2;have hz:=ht.1;have hbl:b<w.heap.size:=World.block_lt_of_cell? w _ q0;generalize ((k:Int) != 1)=uA at *;have KEY:Hid (∀(ka fa:Option Addr)(W:World),Below w.heap.size w W->Zf W w.heap.size W.heap.size ka ([uA].map Value.bool)->Zf W w.heap.size W.heap.size fa ([⟨b,o+1,none⟩].map K5)->Calls Tryd.prog 85 #[.slice ka 1 1,.slice fa 1 1] W fun e w5=>∃v,e=.returned v/\Below w.heap.size w w5/\Hid (w5.ownsRow w.heap.size 147 1 v (XX [uA] [⟨b,o+1,none⟩]).length ((XX [uA] [⟨b,o+1,none⟩]).map K5))):=Xa (fun ka fa W hW hk hp=>by
  have hsz:=hW.size;refine(Tt ka fa 1 1 [uA] [⟨b,o+1,none⟩] w.heap.size W.heap.size W (Nat.le_refl _) (Xa hk) (Xa hp) (Xa rfl) (by simp)).mono ?_;rintro e w5 ⟨v5,rfl,hb5,ho5⟩;exact⟨v5,rfl,Xj hW hb5,Xa (YW ho5 (by omega))⟩)
 have e2:∀x y,((w.alloc x).alloc y).drew.heap.size=w.heap.size+2:=fun x y=>by show((w.alloc x).alloc y).heap.size=_;simp
 have HCH1:=Xa (KEY.out (some ⟨w.heap.size,0,none⟩) (some ⟨w.heap.size+1,0,none⟩) ((w.alloc (.cells #[.bool uA] 4)).alloc (.cells #[.pointer (some ⟨b,o+1,none⟩)] 147)).drew (Xb (Xb (Below.refl w.heap.size w) _) _).drew (by rw[e2];exact Jf w [.bool uA] 4 [.pointer (some ⟨b,o+1,none⟩)] 147) (by rw[e2];exact Jb w [.pointer (some ⟨b,o+1,none⟩)] 147 [.bool uA] 4));have HCH2:=Xa (KEY.out (some ⟨w.heap.size+1,0,none⟩) (some ⟨w.heap.size,0,none⟩) ((w.alloc (.cells #[.pointer (some ⟨b,o+1,none⟩)] 147)).alloc (.cells #[.bool uA] 4)).drew (Xb (Xb (Below.refl w.heap.size w) _) _).drew (by rw[e2];exact Jb w [.bool uA] 4 [.pointer (some ⟨b,o+1,none⟩)] 147) (by rw[e2];exact Jf w [.pointer (some ⟨b,o+1,none⟩)] 147 [.bool uA] 4));clear e2 KEY q1 q2 q3 c0 c2 c3;have hk3:(k:Int)<=3:=by omega
 have hk0:(0:Int)<=(k:Int):=by omega
 have hk4:(k:Int)<4:=by omega
 have hk5:k<4:=by omega
 go_enter Tryd.func83,Tryd.ntmps83
 go_wp2_with fail
 go_region_held3 (fun w'=>w'.cell? ⟨b,o,none⟩=some (.int .i64 (k:Int))/\w'.cell? ⟨1,k*4+1,none⟩=some (.bool uA)) (go_keep)
  (first
   | (go_at_call 85;with_reducible refine HCH1.out.mono ?_;rintro e w5 ⟨v5,rfl,hb5,HO5⟩;have f2:=(hb5.cell (p:=⟨b,o,none⟩) hbl).trans q0;have f3:=(hb5.cell (p:=⟨1,k*4+1,none⟩) hz).trans c1;have HB5:=Xa hb5;clear hb5)
   | (go_at_call 85;with_reducible refine HCH2.out.mono ?_;rintro e w5 ⟨v5,rfl,hb5,HO5⟩;have f2:=(hb5.cell (p:=⟨b,o,none⟩) hbl).trans q0;have f3:=(hb5.cell (p:=⟨1,k*4+1,none⟩) hz).trans c1;have HB5:=Xa hb5;clear hb5))
 all_goals
  go_wp2
  go_ret
  exact⟨v5,rfl,HB5.out,HO5.out⟩
theorem ZcW(b o k:Nat)(a t l:Int)(w:World)(hi:Hid (TX w b o ⟨k,a,t,l⟩))(h1:1<=k)(h2:k<=3)(ht:Hid (Ym w)) :
 Calls Tryd.prog 66 #[.pointer (some ⟨b,o,none⟩)] w fun e w'=>∃v,e=.returned v/\Below w.heap.size w w'/\w'.ownsRow w.heap.size 2 1 v (rdT ⟨k,a,t,l⟩).length ((rdT ⟨k,a,t,l⟩).map (Value.int .i64)):=by
 have HC:=Xa (Wl b o k a t l w hi h1 h2 ht);obtain⟨q0,q1,q2,q3⟩:=hi.out;simp only at q0 q1 q2 q3;have HQ1:=Xa q1;have HRT:Hid (rdT ⟨k,a,t,l⟩=if ((k:Int) != 1)then [a]else []):=Xa rfl;generalize rdT ⟨k,a,t,l⟩=vs at *;generalize ((k:Int) != 1)=uA at *;have hbl:b<w.heap.size:=World.block_lt_of_cell? w _ q0;clear q0 q1 q2 q3
 go_enter Tryd.func66,Tryd.ntmps66
 go_wp2_with fail
 refine HC.mono ?_;rintro e w5 ⟨v5,rfl,hb5,ho5⟩;obtain⟨a5,c5,rfl,hv5⟩:=Tr ho5;rw[List.length_map];have r1:=(hb5.cell (p:=⟨b,o+1,none⟩) hbl).trans HQ1.out;have hb5l:b<w5.heap.size:=by have:=hb5.size;omega
 have HK:=Xa (JV a5 c5 (XX [uA] [⟨b,o+1,none⟩]) vs w.heap.size w5.heap.size w5 (Nat.le_refl _) (Xa hv5) (Xa (by rw[HRT.out];cases uA<;>rfl)) (Xa (by
  intro i h h';have hvs:=HRT.out;subst hvs;cases uA
  ·exact absurd h (by simp[XX])
  ·match i,h with
   | 0,_=>exact⟨hb5l,r1⟩)) (by cases uA<;>simp[XX]))
 have HB5:=Xa hb5;clear hb5 ho5 hv5 r1;generalize (XX [uA] [⟨b,o+1,none⟩]).length=kl at *
 go_wp2_with fail
 refine HK.mono ?_;rintro e w7 ⟨v7,rfl,hb7,ho7⟩;have HB7:=Xa (Xj HB5.out hb7);have HO7:=Xa (YW ho7 HB5.size);clear hb7 ho7
 go_wp2_with fail
 go_ret
 exact⟨v7,rfl,HB7.out,HO7.out⟩
def writesI(x:XS):List Int:=if dB x.op then [x.dst]else []
theorem VO(b k:Nat)(dst a bb imm:Int)(w:World)(hi:Hid (ZU w b 0 ⟨k,dst,a,bb,imm⟩))(h1:1<=k)(h2:k<=13)(ht:Hid (YG w)) :
 Calls Tryd.prog 69 #[.pointer (some ⟨b,0,none⟩)] w fun e w'=>∃v,e=.returned v/\Below w.heap.size w w'/\w'.ownsRow w.heap.size 2 1 v (writesI ⟨k,dst,a,bb,imm⟩).length ((writesI ⟨k,dst,a,bb,imm⟩).map (Value.int .i64)):=by
 obtain⟨q0,q1,q2,q3,q4⟩:=hi.out;simp only at q0 q1 q2 q3 q4;obtain⟨c0,c1,c2,c3,c4⟩:=ht.2 k h1 h2;have hz:=ht.1;have hbl:b<w.heap.size:=World.block_lt_of_cell? w _ q2;have HRI:Hid (writesI ⟨k,dst,a,bb,imm⟩=if dB (k:Int)then [dst]else []):=Xa rfl;generalize writesI ⟨k,dst,a,bb,imm⟩=vs at *;generalize dB (k:Int)=uD at *;have HQ1:=Xa q1;have KEY:Hid (∀(ka fa:Option Addr)(W:World),Below w.heap.size w W->Zf W w.heap.size W.heap.size ka ([uD].map Value.bool)->Zf W w.heap.size W.heap.size fa ([⟨b,1,none⟩].map K5)->Calls Tryd.prog 85 #[.slice ka 1 1,.slice fa 1 1] W fun e w5=>∃a5 c5 m5,e=.returned (.slice a5 m5 c5)/\Below w.heap.size w w5 /\
  Hid (Calls Tryd.prog 82 #[.slice a5 m5 c5] w5 fun e w'=>∃v,e=.returned v/\Below w.heap.size w w'/\Hid (w'.ownsRow w.heap.size 2 1 v vs.length (vs.map (Value.int .i64))))):=Xa (fun ka fa W hW hk hp=>by
  have hsz:=hW.size;refine(Tt ka fa 1 1 [uD] [⟨b,1,none⟩] w.heap.size W.heap.size W (Nat.le_refl _) (Xa hk) (Xa hp) (Xa rfl) (by simp)).mono ?_;rintro e w5 ⟨v5,rfl,hb5,ho5⟩;have s5:=hb5.size;have k5:Below w.heap.size w w5:=Xj hW hb5;obtain⟨a5,c5,rfl,hv5⟩:=Tr ho5;rw[List.length_map];refine⟨a5,c5,_,rfl,k5,Xa ?_⟩;have r1:=(k5.cell (p:=⟨b,1,none⟩) hbl).trans HQ1.out;have hb5l:b<w5.heap.size:=by omega
  refine(JV a5 c5 (XX [uD] [⟨b,1,none⟩]) vs W.heap.size w5.heap.size w5 (Nat.le_refl _) (Xa hv5) (Xa ?_) (Xa ?_) ?_).mono ?_
  ·rw[HRI.out];cases uD<;>rfl
  ·intro i h h'
   have hvs:=HRI.out;subst hvs;cases uD
   ·exact absurd h (by simp[XX])
   ·match i,h with
    | 0,_=>exact⟨hb5l,r1⟩
  ·cases uD<;>simp[XX]
  ·rintro e w7 ⟨v7,rfl,hb7,ho7⟩
   exact⟨v7,rfl,Xj k5 hb7,Xa (YW ho7 (by omega))⟩)
 have e2:∀x y,((w.alloc x).alloc y).drew.heap.size=w.heap.size+2:=fun x y=>by show((w.alloc x).alloc y).heap.size=_;simp
 have HCH1:=Xa (KEY.out (some ⟨w.heap.size,0,none⟩) (some ⟨w.heap.size+1,0,none⟩) ((w.alloc (.cells #[.bool uD] 4)).alloc (.cells #[.pointer (some ⟨b,1,none⟩)] 147)).drew (Xb (Xb (Below.refl w.heap.size w) _) _).drew (by rw[e2];exact Jf w [.bool uD] 4 [.pointer (some ⟨b,1,none⟩)] 147) (by rw[e2];exact Jb w [.pointer (some ⟨b,1,none⟩)] 147 [.bool uD] 4));have HCH2:=Xa (KEY.out (some ⟨w.heap.size+1,0,none⟩) (some ⟨w.heap.size,0,none⟩) ((w.alloc (.cells #[.pointer (some ⟨b,1,none⟩)] 147)).alloc (.cells #[.bool uD] 4)).drew (Xb (Xb (Below.refl w.heap.size w) _) _).drew (by rw[e2];exact Jb w [.bool uD] 4 [.pointer (some ⟨b,1,none⟩)] 147) (by rw[e2];exact Jf w [.pointer (some ⟨b,1,none⟩)] 147 [.bool uD] 4));clear e2 KEY q1 q2 q3 q4 c0 c2 c3 c4 HQ1 HRI;have hk0:(0:Int)<=(k:Int):=by omega
 have hk13:(k:Int)<14:=by omega
 go_enter Tryd.func69,Tryd.ntmps69
 go_wp2_with fail
 go_region_held3 (fun w'=>w'.cell? ⟨b,0,none⟩=some (.int .i64 (k:Int))/\w'.cell? ⟨0,k*5+1,none⟩=some (.bool uD)) (go_keep)
  (first
   | (go_at_call 85;with_reducible refine HCH1.out.mono ?_;rintro e w5 ⟨a5,c5,m5,rfl,hb5,HC5⟩;have f2:=(hb5.cell (p:=⟨b,0,none⟩) hbl).trans q0;have f3:=(hb5.cell (p:=⟨0,k*5+1,none⟩) hz).trans c1;clear hb5)
   | (go_at_call 85;with_reducible refine HCH2.out.mono ?_;rintro e w5 ⟨a5,c5,m5,rfl,hb5,HC5⟩;have f2:=(hb5.cell (p:=⟨b,0,none⟩) hbl).trans q0;have f3:=(hb5.cell (p:=⟨0,k*5+1,none⟩) hz).trans c1;clear hb5)
   | (go_at_call 82;with_reducible refine HC5.out.mono ?_;rintro e w7 ⟨v7,rfl,hb7,HO7⟩;have h2':=(hb7.cell (p:=⟨b,0,none⟩) hbl).trans q0;have h3':=(hb7.cell (p:=⟨0,k*5+1,none⟩) hz).trans c1;have HB7:=Xa hb7;clear hb7))
 all_goals
  go_wp2
  go_ret
  exact⟨v7,rfl,HB7.out,HO7.out⟩
end Go.Proofs.YtbofmlmdgkblkaaDoor
namespace Go.Proofs.YtbofmlmdgkblkaaDoor
set_option maxHeartbeats 1000000
set_option maxRecDepth 100000
open Go.RowKit
theorem Tryd.infoVn:(Tryd.prog.info? 64).map (fun i=>(i.zero,i.size,i.bytes))=some (some (.int .i64 0),1,8):=by kernel_rfl
theorem Yo(a:Option Addr)(n c:Nat)(vs:List Int)(L B:Nat)(w:World)(ha:Hid (Xe w L B a vs))(hx:Hid (n=vs.length))(hn:n<=100000)(hB:B<=w.heap.size) :
 Calls Tryd.prog 65 #[.slice a n c] w fun e w'=>∃a' c',e=.returned (.slice a' vs.length c')/\Below w.heap.size w w'/\Xe w' w.heap.size w'.heap.size a' vs:=by
 obtain⟨i0,hi0,hz0,hz1,hz2⟩:=info_parts Tryd.infoVn;have HO0:Hid ((w.alloc (.cells #[] 64)).ownsRow w.heap.size 64 1 (.slice (some ⟨w.heap.size,0,none⟩) 0 0) 0 []):=Xa (World.ownsRow_lit (base:=w.heap.size) (e:=64) (size:=1) w #[] 0 (by simp) (by simp) rfl)
 go_enter Tryd.func65,Tryd.ntmps65
 go_wp2
 go_loopw [3,9] (fun u i wr=>∃k:Nat,k<=n/\i=.int .i64 k/\Below w.heap.size w wr/\Hid (wr.ownsRow w.heap.size 64 1 u k ((vs.take k).map (Value.int .i64)))) (fun _ i _=>n-(intOf i).toNat)
 case atStart=>exact⟨0,Nat.zero_le _,rfl,Xb (Below.refl _ _) _,HO0⟩
 case round =>
  obtain⟨k,hk,rfl,hw,HO⟩:=hrel;by_cases hlt:k<n
  ·have hkx:k<vs.length:=by have:=hx.out;omega
   obtain⟨b,o,rfl,⟨_,hbB⟩,hc⟩:=ha.out k hkx;have hcw:=(Yn hw (by omega)).trans hc;have HN:Hid (vs.take (k+1)=vs.take k++[vs[k]]):=Xa (XF _ _ hkx);clear hc;generalize vs[k]=x at *;have hsz:=hw.size
   go_wp2_with (at_builtin;refine wpList_append_own _ rfl _ _ 90 rfl w.heap.size 64 i0 (.int .i64 0) 1 8 Tryd.underlying90 hi0 hz0 hz1 hz2 rfl (by decide) _ _ _ rfl (HO.alloc _) ⟨wr.heap.size,0,none⟩ 1 1 [.int .i64 x] rfl rfl ?c1 ?c2 ?c3 ?c4 ?c5 ?_)
   case c1 =>
    intro j u hj
    match j,hj with
    | 0,hj=>simp at hj;subst hj;simp[Addr.add]
   case c2=>intro u hu;simp at hu;subst hu;rfl
   case c3=>unfold maxLen;omega
   case c4=>omega
   case c5=>simp;omega
   intro v1 w1 hown1 hgrow1 _;have HO1:=Xa hown1;have HB1:=Xa (XG (Xb hw _) hgrow1 (HO.alloc _) (Nat.le_refl _) (by simp;omega));clear hown1 hgrow1;go_wp2;exact⟨⟨k+1,by omega,by go_num,HB1.out,Xa (by rw[HN.out,YO,List.map_take];exact HO1.out)⟩,by simp[intOf];omega⟩
  ·go_wp2
   go_ret
   have hown:=HO.out;rw[List.take_of_length_le (l:=vs) (i:=k) (by have:=hx.out;omega)]at hown;obtain⟨a1,c1,rfl,hi1⟩:=Xn hown;exact⟨_,_,rfl,hw,hi1⟩
end Go.Proofs.YtbofmlmdgkblkaaDoor
namespace Go.Proofs.YtbofmlmdgkblkaaDoor
open Go.RowKit Go.Shelf
theorem Tv{m m' l l':Nat}{P:Program}{args:Array Value}{W:World}{R:Ending->World->Prop}(h:YieldAt Fence.wide m P l args W R):YieldAt (Fence.wide.inRound l') m' P l args W R:=by
 obtain⟨fn,tmps,asg,bo,h1,h2⟩:=h;exact⟨fn,tmps,asg,bo,h1,h2.1,fun c cs _=>h2.2 c cs (room_wide _)⟩
structure Pl where
 i:Nat
 ua:Option Addr
 uc:Nat
 us:List Int
 da:Option Addr
 dc:Nat
 ds:List Int
def Pl.dat(p:Pl):Nat × List Int × List Int:=(p.i,p.us,p.ds)
def ZcL(p:Pl):Array Value:=#[.int .i64 (p.i:Int),.agg #[.slice p.ua p.us.length p.uc,.slice p.da p.ds.length p.dc]]
def Zf2(n₀:Nat)(Pd:Nat × List Int × List Int->Prop)(p:Pl)(V:World):Prop:=Pd p.dat/\Xe V n₀ V.heap.size p.ua p.us/\Xe V n₀ V.heap.size p.da p.ds
def Ut(x:Xg)(j:Fin x.instrs.length):Nat × List Int × List Int:=((j:Nat)+1,rdI (x.instrs[j]),writesI (x.instrs[j]))
def plL(x:Xg):List (Nat × List Int × List Int):=(x.instrs.length+1,rdT x.term,[])::((TA x.instrs.length 0).map (Ut x)++[(0,[],x.phis.map Ph.dst)])
theorem Za1(x:Xg)(j:Fin x.instrs.length):Ut x j∈plL x:=by
 refine List.mem_cons_of_mem _ (List.mem_append_left _ (List.mem_map_of_mem ?_));unfold TA;rw[List.take_of_length_le (by simp)];exact List.mem_reverse.2 (List.mem_finRange j)
theorem VG(x:Xg):((0:Nat),([]:List Int),x.phis.map Ph.dst)∈plL x:=List.mem_cons_of_mem _ (List.mem_append_right _ (List.mem_singleton.2 rfl))
theorem YG.of_block{V V':World}(h:YG V)(e:V'.heap[(0 : Nat)]?=V.heap[(0 : Nat)]?)(hs:V.heap.size<=V'.heap.size):YG V':=by
 refine⟨Nat.lt_of_lt_of_le h.1 hs,fun i h1 h2=>?_⟩;have e:=fun o=>Xc (o:=o) e
 simp only[e];exact h.2 i h1 h2
theorem Ym.of_block{V V':World}(h:Ym V)(e:V'.heap[(1 : Nat)]?=V.heap[(1 : Nat)]?)(hs:V.heap.size<=V'.heap.size):Ym V':=by
 refine⟨Nat.lt_of_lt_of_le h.1 hs,fun i h1 h2=>?_⟩;have e:=fun o=>Xc (o:=o) e
 simp only[e];exact h.2 i h1 h2
structure Stc(x:Xg)(L B Bx n₀:Nat)(V:World):Prop where
 op:YG V
 ter:Ym V
 blk:Kj V L B Bx 0 x
 lt:Bx<n₀
 le:B<=n₀
 g1:0 < n₀
 g2:1 < n₀
theorem Stc.same{x:Xg}{L B Bx n₀:Nat}{V V':World}(h:Stc x L B Bx n₀ V)(e:∀k,k<n₀->V'.heap[k]?=V.heap[k]?)(hs:V.heap.size<=V'.heap.size):Stc x L B Bx n₀ V' :=
 ⟨h.op.of_block (e _ h.g1) hs,h.ter.of_block (e _ h.g2) hs,h.blk.keepS (fun k _ h2=>e k (Nat.lt_of_lt_of_le h2 h.le)) (e _ h.lt),h.lt,h.le,h.g1,h.g2⟩
theorem Stc.below{x:Xg}{L B Bx n₀:Nat}{V V':World}(h:Stc x L B Bx n₀ V)(k:Below V.heap.size V V')(hn:n₀<=V.heap.size):Stc x L B Bx n₀ V':=h.same (fun i hi=>k.block i (by omega)) k.size
theorem Stc.kp{x:Xg}{L B Bx n₀:Nat}{Ms:Nat->Prop}{V V':World}(h:Stc x L B Bx n₀ V)(k:ZG n₀ Ms V V')(hM:∀k,L<=k->k<B->¬Ms k)(hMx:¬Ms Bx)(hM1:¬Ms 0)(hM2:¬Ms 1):Stc x L B Bx n₀ V' :=
 ⟨h.op.of_block (k.low _ h.g1 hM1) k.size,h.ter.of_block (k.low _ h.g2 hM2) k.size,h.blk.keepS (fun i h1 h2=>k.low i (Nat.lt_of_lt_of_le h2 h.le) (hM i h1 h2)) (k.low _ h.lt hMx),h.lt,h.le,h.g1,h.g2⟩
theorem XM{β:Type}{B:Nat}{J:β->World->Prop}(hJ:OwnFrom B J){s:β}{V V':World}(h:J s V)(k:Below V.heap.size V V'):J s V' :=
 hJ s V V' none h ⟨k.os,k.tape,k.output,k.size,fun i hi _=>k.block i hi⟩ (fun r e=>by cases e)
theorem YX{F:Fence}{n:Nat}{P:Program}{fn:Func}{tmps:Array Value}{R:Ending->World->Prop}{D:Nat}{W:World}(hD:W.heap[D]?=some (.deferred (some [])))(h:∃v,(results fn tmps).run P (W.putObj D (.deferred none))=.ok v (W.putObj D (.deferred none))/\R (.returned v) (W.putObj D (.deferred none))):LeavesInM F n P fn tmps R [{ target:=.collected D,args:=#[] }] .returning W :=
 ⟨by simp,Or.inl ⟨D,_,rfl,run_takeDeferred hD,h⟩⟩
theorem ZbV(y:XS):(rdI y).length<=2:=by unfold rdI;split<;>split<;>simp
end Go.Proofs.YtbofmlmdgkblkaaDoor
namespace Go.Proofs.YtbofmlmdgkblkaaDoor
open Go.RowKit Go.Shelf
attribute [local go_sem] Oper.semAt_some
structure TQ(x:Xg)(L B Bx n₀ n₁:Nat)(V:World):Prop where
 op:YG V
 ter:Ym V
 blk:Kj V L B Bx 0 x
 lt:Bx<n₁
 le:B<=n₀
 g1:0 < n₀
 g2:1 < n₀
 nn:n₀<=n₁
theorem TQ.same{x:Xg}{L B Bx n₀ n₁:Nat}{V V':World}(h:TQ x L B Bx n₀ n₁ V)(e:∀k,k<n₁->V'.heap[k]?=V.heap[k]?)(hs:V.heap.size<=V'.heap.size):TQ x L B Bx n₀ n₁ V' :=
 ⟨h.op.of_block (e _ (Nat.lt_of_lt_of_le h.g1 h.nn)) hs,h.ter.of_block (e _ (Nat.lt_of_lt_of_le h.g2 h.nn)) hs,h.blk.keepS (fun k _ h2=>e k (Nat.lt_of_lt_of_le (Nat.lt_of_lt_of_le h2 h.le) h.nn)) (e _ h.lt),h.lt,h.le,h.g1,h.g2,h.nn⟩
theorem TQ.below{x:Xg}{L B Bx n₀ n₁:Nat}{V V':World}(h:TQ x L B Bx n₀ n₁ V)(k:Below V.heap.size V V')(hn:n₁<=V.heap.size):TQ x L B Bx n₀ n₁ V':=h.same (fun i hi=>k.block i (by omega)) k.size
theorem TQ.kp{x:Xg}{L B Bx n₀ n₁:Nat}{Ms:Nat->Prop}{V V':World}(h:TQ x L B Bx n₀ n₁ V)(k:ZG n₀ Ms V V')(hM:∀k,L<=k->k<B->¬Ms k)(hMx:¬Ms Bx)(hM1:¬Ms 0)(hM2:¬Ms 1):TQ x L B Bx n₀ n₁ V':=by
 have hb:V'.heap[Bx]?=V.heap[Bx]?:=by
  obtain⟨pa,pc,ia,ic,e0,_⟩:=h.blk;exact k.block e0 hMx
 exact⟨h.op.of_block (k.low _ h.g1 hM1) k.size,h.ter.of_block (k.low _ h.g2 hM2) k.size,h.blk.keepS (fun i h1 h2=>k.low i (Nat.lt_of_lt_of_le h2 h.le) (hM i h1 h2)) hb,h.lt,h.le,h.g1,h.g2,h.nn⟩
end Go.Proofs.YtbofmlmdgkblkaaDoor
namespace Go.Proofs.YtbofmlmdgkblkaaDoor
open Go.RowKit
structure UF(V:Nat)(xs:List Xg):Prop where
 okf:WY xs
 vle:V<=2000
 ops:∀x∈xs,∀y∈x.instrs,1<=y.op/\y.op<=13
 kind:∀x∈xs,1<=x.term.kind/\x.term.kind<=3
 rdi:∀x∈xs,∀y∈x.instrs,∀v∈rdI y,0<=v/\v<V
 wri:∀x∈xs,∀y∈x.instrs,∀v∈writesI y,0<=v/\v<V
 rdt:∀x∈xs,∀v∈rdT x.term,0<=v/\v<V
 phd:∀x∈xs,∀p∈x.phis,0<=p.dst/\p.dst<V
 pha:∀t (h:t<xs.length),∀p∈xs[t].phis,p.args.length=(predsFrom xs 0 (t:Int)).length/\∀a∈p.args,0<=a/\a<V
 lens:∀x∈xs,x.instrs.length<=4000/\x.phis.length<=4000
theorem Ub{u:Bool}{x lo hi:Int}(h:Kt u x lo hi=true)(hu:u=true):lo<=x/\x<hi:=by
 subst hu;simpa [Kt]using h
theorem ZaQ{xs:List Xg}{x:Xg}(h:x∈xs):KL x<=Xo xs:=by
 unfold Xo
 induction xs with
 | nil=>cases h
 | cons y ys ih =>
  rcases List.mem_cons.1 h with rfl | h
  ·simp
  ·have:=ih h;simp;omega
theorem Ze8:∀ps:List Ph,ps.length<=XP ps
 | []=>Nat.le_refl _
 | p::ps=>by have:=Ze8 ps;simp[XP]at *;omega
theorem Ue{V:Nat}{xs:List Xg}(h:Y7 ⟨(V:Int),xs⟩=true):UF V xs:=by
 have hok:=UN h;simp only[Y7,Bool.and_eq_true]at h;obtain⟨⟨⟨⟨h1,h2⟩,h3⟩,h4⟩,_⟩:=h;simp only[Y6,Bool.and_eq_true,decide_eq_true_eq]at h1;have hI:∀x∈xs,∀y∈x.instrs,Yh (V:Int) 10 y=true:=fun x hx y hy=>List.all_eq_true.1 (List.all_eq_true.1 h3 x hx) y hy
 have hT:∀x∈xs,Ze (V:Int) 1 xs.length x.term=true:=fun x hx=>by
  have:=List.all_eq_true.1 h2 x hx;simp only[ZI,Bool.and_eq_true]at this;exact this.1
 have hP:=(YZ ZB ⟨(V:Int),xs⟩ xs 0).1 h4;refine⟨hok,by omega,fun x hx y hy=>?_,fun x hx=>?_,fun x hx y hy v hv=>?_,fun x hx y hy v hv=>?_,fun x hx v hv=>?_,fun x hx p hp=>?_,fun t ht p hp=>?_,fun x hx=>?_⟩
 ·have:=hI x hx y hy
  simp only[Yh,Bool.and_eq_true,decide_eq_true_eq]at this;omega
 ·have:=hT x hx
  simp only[Ze,Bool.and_eq_true,decide_eq_true_eq]at this;omega
 ·have:=hI x hx y hy
  simp only[Yh,Bool.and_eq_true]at this;obtain⟨⟨⟨⟨_,_⟩,ha⟩,hb⟩,_⟩:=this;unfold rdI at hv;rcases List.mem_append.1 hv with hv | hv
  ·by_cases e:aB y.op=true
   ·rw[if_pos e]at hv
    have e2:v=y.a:=by simpa using hv
    rw[e2];exact Ub ha e
   ·rw[if_neg e]at hv;cases hv
  ·by_cases e:bB y.op=true
   ·rw[if_pos e]at hv
    have e2:v=y.b:=by simpa using hv
    rw[e2];exact Ub hb e
   ·rw[if_neg e]at hv;cases hv
 ·have:=hI x hx y hy
  simp only[Yh,Bool.and_eq_true]at this;obtain⟨⟨⟨⟨_,hd⟩,_⟩,_⟩,_⟩:=this;unfold writesI at hv;by_cases e:dB y.op=true
  ·rw[if_pos e]at hv
   have e2:v=y.dst:=by simpa using hv
   rw[e2];exact Ub hd e
  ·rw[if_neg e]at hv;cases hv
 ·have:=hT x hx
  simp only[Ze,Bool.and_eq_true]at this;obtain⟨⟨⟨_,ha⟩,_⟩,_⟩:=this;unfold rdT at hv;by_cases e:(x.term.kind != 1)=true
  ·rw[if_pos e]at hv
   have e2:v=x.term.a:=by simpa using hv
   rw[e2];exact Ub ha e
  ·rw[if_neg e]at hv;cases hv
 ·obtain⟨t,ht,rfl⟩:=List.getElem_of_mem hx
  have:=List.all_eq_true.1 (hP t ht) p hp;simp only[ZB,Bool.and_eq_true]at this;exact Ub this.1 rfl
 ·have:=List.all_eq_true.1 (hP t ht) p hp
  simp only[ZB,ZM,Bool.and_eq_true,decide_eq_true_eq,List.all_eq_true]at this;rw[Nat.zero_add]at this;exact⟨this.2.1.2,fun a ha=>this.2.2 a ha⟩
 ·have:=ZaQ hx
  have h5:Xo xs<=4000:=h1.2;have:=Ze8 x.phis;unfold KL at *;omega
def X0(l:List Int):List Nat:=l.map Int.toNat
theorem JI{l:List Int}(h:∀v∈l,0<=v):(X0 l).map Int.ofNat=l:=by
 unfold X0;rw[List.map_map]
 conv=>rhs;rw[<-List.map_id l]
 apply List.map_congr_left;intro v hv;have:=h v hv;simp[Function.comp];omega
theorem YB{l:List Int}(h:∀v∈l,0<=v){x:Nat}:x∈X0 l↔(x:Int)∈l:=by
 unfold X0;rw[List.mem_map];constructor
 ·rintro⟨v,hv,rfl⟩
  have:=h v hv;rw[show((v.toNat:Nat):Int)=v by omega];exact hv
 ·intro hx
  exact⟨_,hx,by omega⟩
def phT(xs:List Xg)(t:Nat)(ps:List Ph):List (Nat × Nat):=ps.flatMap fun p=>(Yb xs xs.length t).zip (X0 p.args)
def phB(xs:List Xg)(t:Nat):List (Nat × Nat):=(xs[t]?).elim [] fun x=>phT xs t x.phis
def Wa(xs:List Xg)(k:Nat):List (Nat × Nat):=(List.range k).flatMap (phB xs)
end Go.Proofs.YtbofmlmdgkblkaaDoor
