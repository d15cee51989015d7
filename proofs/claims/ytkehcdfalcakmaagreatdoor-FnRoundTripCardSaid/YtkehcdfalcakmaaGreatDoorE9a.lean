import Derived.Test.YtkehcdfalcakmaaGreatDoorE3
namespace Go.Proofs.YtkehcdfalcakmaaGreatDoor
set_option maxHeartbeats 1000000
set_option maxRecDepth 100000
open Go.RowKit
def ZK(p:Addr):Value:=.pointer (some p)
def XM:List Bool->List Addr->List Addr
 | k::ks,p::ps=>if k then p::XM ks ps else XM ks ps
 | _,_=>[]
theorem Zck(ks:List Bool)(ps:List Addr)(k:Bool)(p:Addr)(h:ks.length=ps.length):XM (ks++[k]) (ps++[p])=XM ks ps++(if k then [p]else []):=by
 induction ks generalizing ps with
 | nil=>cases ps with
  | nil=>cases k<;>rfl
  | cons q r=>simp at h
 | cons x r ih=>cases ps with
  | nil=>simp at h
  | cons q s=>cases x<;>simp[XM,ih s (by simpa using h)]
theorem UE(ks:List Bool)(ps:List Addr):(XM ks ps).length<=ps.length:=by
 induction ks generalizing ps with
 | nil=>simp[XM]
 | cons x r ih=>cases ps with
  | nil=>simp[XM]
  | cons q s=>have:=ih s;cases x<;>simp[XM]<;>omega
theorem Tryz.infoPtr:(Tryz.prog.info? 113).map (fun i=>(i.zero,i.size,i.bytes))=some (some (.pointer none),1,8):=by kernel_rfl
theorem Zen(l:List Addr)(v:Addr):(l++[v]).map ZK=l.map ZK++[ZK v]:=by simp
theorem Zcw(w:World):(w.alloc (.cells #[] 113)).ownsRow w.heap.size 113 1 (.slice (some ⟨w.heap.size,0,none⟩) 0 0) 0 []:=by
 have:=World.ownsRow_lit (base:=w.heap.size) (e:=113) (size:=1) w #[] 0 (by simp) (by simp) rfl;simpa using this
theorem Kn(ka fa:Option Addr)(kc fc:Nat)(ks:List Bool)(ps:List Addr)(L B:Nat)(w:World)(hB:B<=w.heap.size)(hk:Hid (Yr w L B ka (ks.map Value.bool)))(hp:Hid (Yr w L B fa (ps.map ZK)))(hl:Hid (ks.length=ps.length))(hs:ps.length<=1000) :
 Calls Tryz.prog 58 #[.slice ka ks.length kc,.slice fa ps.length fc] w fun e w'=>∃v,e=.returned v/\Below w.heap.size w w'/\w'.ownsRow w.heap.size 113 1 v (XM ks ps).length ((XM ks ps).map ZK):=by
 obtain⟨i0,hi0,hz0,hz1,hz2⟩:=info_parts Tryz.infoPtr
 go_enter Tryz.func58,Tryz.ntmps58
 go_wp2
 go_loopw [5,11] (fun v i wr=>∃k:Nat,k<=ps.length/\i=.int .i64 k/\Hid (Below w.heap.size w wr)/\Hid (wr.ownsRow w.heap.size 113 1 v (XM (ks.take k) (ps.take k)).length ((XM (ks.take k) (ps.take k)).map ZK))) (fun _ i _=>ps.length-(intOf i).toNat)
 case atStart=>exact⟨0,Nat.zero_le _,rfl,Xa (Xb (Below.refl _ _) _),Xa (by simpa [XM]using Zcw w)⟩
 case round =>
  obtain⟨k,hk',rfl,HB,HO⟩:=hrel;have hwz:=HB.size;by_cases hlt:k<ps.length
  ·have hkk:k<ks.length:=by have:=hl.out;omega
   obtain⟨b1,o1,rfl,⟨_,hb1⟩,hc1⟩:=(hk.keepS (X7.of_below (HB.mono hB))) k (by simpa using hkk);obtain⟨b2,o2,rfl,⟨_,hb2⟩,hc2⟩:=(hp.keepS (X7.of_below (HB.mono hB))) k (by simpa using hlt);rw[List.getElem_map]at hc1 hc2;unfold ZK at hc2;have HT:Hid (XM (ks.take (k+1)) (ps.take (k+1))=XM (ks.take k) (ps.take k)++(if ks[k]then [ps[k]]else [])):=Xa (by rw[List.take_succ_eq_append_getElem hkk,List.take_succ_eq_append_getElem hlt,Zck _ _ _ _ (by simp only[List.length_take];omega)]);have HL:Hid ((XM (ks.take k) (ps.take k)).length+1<=2000):=Xa (by have:=UE (ks.take k) (ps.take k);simp only[List.length_take]at this;omega);generalize ks[k]=K at *;generalize ps[k]=p at *;cases K with
   | false =>
    have HO1:Hid (wr.ownsRow w.heap.size 113 1 u5 (XM (ks.take (k+1)) (ps.take (k+1))).length ((XM (ks.take (k+1)) (ps.take (k+1))).map ZK)):=Xa (by rw[HT.out];simpa using HO.out);go_wp2;exact⟨⟨k+1,by omega,by go_num,HB,HO1⟩,by simp[intOf];omega⟩
   | true =>
    have HT':Hid (XM (ks.take (k+1)) (ps.take (k+1))=XM (ks.take k) (ps.take k)++[p]):=Xa (by have:=HT.out;simpa using this)
    go_wp2_with (at_builtin;refine wpList_append_own_at _ rfl _ _ 76 rfl w.heap.size 113 i0 (.pointer none) 1 8 Tryz.underlying76 hi0 hz0 hz1 hz2 rfl (by decide) _ _ _ rfl (HO.alloc _) ⟨wr.heap.size,0,none⟩ 1 1 [.pointer (some p)] rfl rfl ?c1 ?c2 ?c3 ?c4 ?c5 ?_)
    case c2=>first | rfl | simp | (intro u hu;simp at hu;subst hu;rfl)
    case c3=>have:=HL.out;unfold maxLen;omega
    case c4=>have:=HL.out;omega
    case c5=>first | omega | (simp;omega)
    intro v1 w1 hown1 hgrow1 hne1 hat1;have HO1:Hid (w1.ownsRow w.heap.size 113 1 v1 (XM (ks.take (k+1)) (ps.take (k+1))).length ((XM (ks.take (k+1)) (ps.take (k+1))).map ZK)):=Xa (by rw[HT'.out,Zen,List.length_append];exact hown1);have HB1:Hid (Below w.heap.size w w1):=Xa (XG ((HB.out).alloc (by omega) _) hgrow1 (HO.alloc _) (Nat.le_refl _) (by simp;omega));clear hown1 hgrow1 hne1 hat1;go_wp2;exact⟨⟨k+1,by omega,by go_num,HB1,HO1⟩,by simp[intOf];omega⟩
  ·have HO2:Hid (wr.ownsRow w.heap.size 113 1 u5 (XM ks ps).length ((XM ks ps).map ZK)):=Xa (by have:=HO.out;have e:=hl.out;rwa[List.take_of_length_le (by omega),List.take_of_length_le (by omega)]at this)
   go_wp2
   go_ret
   exact⟨_,rfl,HB.out,HO2.out⟩
def iB(op:Int):Bool:=decide (op<=2)
def ZV(k:Int):List UInt8:=if k=1 then [106,117,109,112]else if k=3 then [114,101,116]else [98,114,97,110,99,104]
def Ym(w:World):Prop:=0 < w.heap.size/\∀k:Nat,1<=k->k<=13->w.cell? ⟨0,k*5,none⟩=some (.string (Xs (wordS k)))/\w.cell? ⟨0,k*5+1,none⟩=some (.bool (dB k))/\w.cell? ⟨0,k*5+2,none⟩=some (.bool (aB k)) /\
 w.cell? ⟨0,k*5+3,none⟩=some (.bool (bB k))/\w.cell? ⟨0,k*5+4,none⟩=some (.bool (iB k))
def XR(w:World):Prop:=1 < w.heap.size/\∀k:Nat,1<=k->k<=3->w.cell? ⟨1,k*4,none⟩=some (.string (Xs (ZV k)))/\w.cell? ⟨1,k*4+1,none⟩=some (.bool ((k:Int) != 1))/\w.cell? ⟨1,k*4+2,none⟩=some (.bool ((k:Int) != 3)) /\
 w.cell? ⟨1,k*4+3,none⟩=some (.bool ((k:Int)==2))
theorem Ym.keep{w w':World}{B:Nat}(h:Ym w)(k:Below B w w')(hB:0 < B):Ym w':=by
 refine⟨Nat.lt_of_lt_of_le h.1 k.size,fun i h1 h2=>?_⟩;have e:=fun o=>Xc (o:=o) (k.block 0 hB)
 obtain⟨c0,c1,c2,c3,c4⟩:=h.2 i h1 h2;exact⟨(e _).trans c0,(e _).trans c1,(e _).trans c2,(e _).trans c3,(e _).trans c4⟩
theorem XR.keep{w w':World}{B:Nat}(h:XR w)(k:Below B w w')(hB:1 < B):XR w':=by
 refine⟨Nat.lt_of_lt_of_le h.1 k.size,fun i h1 h2=>?_⟩;have e:=fun o=>Xc (o:=o) (k.block 1 hB)
 obtain⟨c0,c1,c2,c3⟩:=h.2 i h1 h2;exact⟨(e _).trans c0,(e _).trans c1,(e _).trans c2,(e _).trans c3⟩
theorem Ym.old{w:World}(h:Ym w):Ue w:=⟨h.1,fun k h1 h2=>by
 obtain⟨c0,c1,c2,c3,c4⟩:=h.2 k h1 h2;exact⟨_,c0,c1,c2,c3,_,c4⟩⟩
theorem XR.old{w:World}(h:XR w):TF w:=⟨h.1,fun k h1 h2=>by
 obtain⟨c0,c1,c2,c3⟩:=h.2 k h1 h2;exact⟨_,c0,c1,c2,c3⟩⟩
theorem Te(w:World)(vs:List Value)(t:TypeId)(us:List Value)(t':TypeId):Yr ((w.alloc (.cells vs.toArray t)).alloc (.cells us.toArray t')).drew w.heap.size (w.heap.size+2) (some ⟨w.heap.size,0,none⟩) vs:=fun i hi =>
 ⟨_,0,rfl,⟨Nat.le_refl _,by omega⟩,by
  obtain⟨b,o,e,_,h⟩:=ZbR w vs t i hi;cases e;exact(Xc (Below.heap_alloc _ _ _ (by simp))).trans h⟩
theorem Td(w:World)(vs:List Value)(t:TypeId)(us:List Value)(t':TypeId):Yr ((w.alloc (.cells us.toArray t')).alloc (.cells vs.toArray t)).drew w.heap.size (w.heap.size+2) (some ⟨w.heap.size+1,0,none⟩) vs:=fun i hi =>
 ⟨_,0,rfl,⟨by omega,by omega⟩,by
  obtain⟨b,o,e,_,h⟩:=ZbR (w.alloc (.cells us.toArray t')) vs t i hi;have e1:(w.alloc (.cells us.toArray t')).heap.size=w.heap.size+1:=by simp
  rw[e1]at e;cases e;exact h⟩
theorem UG(b:Nat)(k:Nat)(dst a bb imm:Int)(w:World)(hi:Hid (Y0 w b 0 ⟨k,dst,a,bb,imm⟩))(h1:1<=k)(h2:k<=13)(ht:Hid (Ym w)) :
 Calls Tryz.prog 37 #[.pointer (some ⟨b,0,none⟩)] w fun e w'=>∃v,e=.returned v/\Below w.heap.size w w'/\w'.ownsRow w.heap.size 113 1 v (XM [dB k,aB k,bB k,iB k] [⟨b,1,none⟩,⟨b,2,none⟩,⟨b,3,none⟩,⟨b,4,none⟩]).length ((XM [dB k,aB k,bB k,iB k] [⟨b,1,none⟩,⟨b,2,none⟩,⟨b,3,none⟩,⟨b,4,none⟩]).map ZK):=by
 obtain⟨q0,q1,q2,q3,q4⟩:=hi.out;simp only at q0 q1 q2 q3 q4;obtain⟨c0,c1,c2,c3,c4⟩:=ht.2 k h1 h2;have hz:=ht.1;generalize dB (k:Int)=uD at *;generalize aB (k:Int)=uA at *;generalize bB (k:Int)=uB at *;generalize iB (k:Int)=uI at *
 go_enter Tryz.func37,Tryz.ntmps37
 go_wp2_with fail
 have e1:(w.alloc (.cells #[.string (Xs (wordS k)),.bool uD,.bool uA,.bool uB,.bool uI] 73)).heap.size=w.heap.size+1:=by simp
 have g1:(w.alloc (.cells #[.string (Xs (wordS k)),.bool uD,.bool uA,.bool uB,.bool uI] 73)).cell? ⟨w.heap.size,1,none⟩=some (.bool uD):=by simp
 have g2:(w.alloc (.cells #[.string (Xs (wordS k)),.bool uD,.bool uA,.bool uB,.bool uI] 73)).cell? ⟨w.heap.size,2,none⟩=some (.bool uA):=by simp
 have g3:(w.alloc (.cells #[.string (Xs (wordS k)),.bool uD,.bool uA,.bool uB,.bool uI] 73)).cell? ⟨w.heap.size,3,none⟩=some (.bool uB):=by simp
 have g4:(w.alloc (.cells #[.string (Xs (wordS k)),.bool uD,.bool uA,.bool uB,.bool uI] 73)).cell? ⟨w.heap.size,4,none⟩=some (.bool uI):=by simp
 have HBW:Hid (Below w.heap.size w (w.alloc (.cells #[.string (Xs (wordS k)),.bool uD,.bool uA,.bool uB,.bool uI] 73))):=Xa (Xb (Below.refl _ _) _);generalize w.alloc (.cells #[.string (Xs (wordS k)),.bool uD,.bool uA,.bool uB,.bool uI] 73)=W0 at *;clear q0 q1 q2 q3 q4 c0 c1 c2 c3 c4;have HE1:=Xa e1;have hlt:w.heap.size<W0.heap.size:=by omega
 clear e1;have HCH1:Hid (Calls Tryz.prog 58 #[.slice (some ⟨W0.heap.size,0,none⟩) 4 4,.slice (some ⟨W0.heap.size+1,0,none⟩) 4 4] (((W0.alloc (.cells #[.bool uD,.bool uA,.bool uB,.bool uI] 4)).alloc (.cells #[.pointer (some ⟨b,1,none⟩),.pointer (some ⟨b,2,none⟩),.pointer (some ⟨b,3,none⟩),.pointer (some ⟨b,4,none⟩)] 113)).drew) (fun e w'=>∃v,e=.returned v/\Hid (Below w.heap.size w w')/\Hid (w'.ownsRow w.heap.size 113 1 v (XM [uD,uA,uB,uI] [⟨b,1,none⟩,⟨b,2,none⟩,⟨b,3,none⟩,⟨b,4,none⟩]).length ((XM [uD,uA,uB,uI] [⟨b,1,none⟩,⟨b,2,none⟩,⟨b,3,none⟩,⟨b,4,none⟩]).map ZK))/\w'.cell? ⟨w.heap.size,1,none⟩=some (.bool uD)/\w'.cell? ⟨w.heap.size,2,none⟩=some (.bool uA)/\w'.cell? ⟨w.heap.size,3,none⟩=some (.bool uB)/\w'.cell? ⟨w.heap.size,4,none⟩=some (.bool uI))):=Xa (by
  refine(Kn (some ⟨W0.heap.size,0,none⟩) (some ⟨W0.heap.size+1,0,none⟩) 4 4 [uD,uA,uB,uI] [⟨b,1,none⟩,⟨b,2,none⟩,⟨b,3,none⟩,⟨b,4,none⟩] W0.heap.size (W0.heap.size+2) (((W0.alloc (.cells #[.bool uD,.bool uA,.bool uB,.bool uI] 4)).alloc (.cells #[.pointer (some ⟨b,1,none⟩),.pointer (some ⟨b,2,none⟩),.pointer (some ⟨b,3,none⟩),.pointer (some ⟨b,4,none⟩)] 113)).drew) (by show _<=((W0.alloc (.cells #[.bool uD,.bool uA,.bool uB,.bool uI] 4)).alloc (.cells #[.pointer (some ⟨b,1,none⟩),.pointer (some ⟨b,2,none⟩),.pointer (some ⟨b,3,none⟩),.pointer (some ⟨b,4,none⟩)] 113)).heap.size;simp) (Xa (Te W0 _ _ _ _)) (Xa (Td W0 _ _ _ _)) (Xa rfl) (by simp)).mono ?_;rintro e w' ⟨v,rfl,h1,h2⟩;have h3:Below W0.heap.size W0 w':=(Xb (Xb (Below.refl W0.heap.size W0) _) _).drew.trans (h1.mono (by show _<=((W0.alloc (.cells #[.bool uD,.bool uA,.bool uB,.bool uI] 4)).alloc (.cells #[.pointer (some ⟨b,1,none⟩),.pointer (some ⟨b,2,none⟩),.pointer (some ⟨b,3,none⟩),.pointer (some ⟨b,4,none⟩)] 113)).heap.size;simp;omega));exact⟨v,rfl,Xa (HBW.trans (h3.mono (by omega))),Xa (Yn h2 (by show _<=((W0.alloc (.cells #[.bool uD,.bool uA,.bool uB,.bool uI] 4)).alloc (.cells #[.pointer (some ⟨b,1,none⟩),.pointer (some ⟨b,2,none⟩),.pointer (some ⟨b,3,none⟩),.pointer (some ⟨b,4,none⟩)] 113)).heap.size;simp;omega)),(h3.cell (p:=⟨w.heap.size,1,none⟩) hlt).trans g1,(h3.cell (p:=⟨w.heap.size,2,none⟩) hlt).trans g2,(h3.cell (p:=⟨w.heap.size,3,none⟩) hlt).trans g3,(h3.cell (p:=⟨w.heap.size,4,none⟩) hlt).trans g4⟩)
 have HCH2:Hid (Calls Tryz.prog 58 #[.slice (some ⟨W0.heap.size+1,0,none⟩) 4 4,.slice (some ⟨W0.heap.size,0,none⟩) 4 4] (((W0.alloc (.cells #[.pointer (some ⟨b,1,none⟩),.pointer (some ⟨b,2,none⟩),.pointer (some ⟨b,3,none⟩),.pointer (some ⟨b,4,none⟩)] 113)).alloc (.cells #[.bool uD,.bool uA,.bool uB,.bool uI] 4)).drew) (fun e w'=>∃v,e=.returned v/\Hid (Below w.heap.size w w')/\Hid (w'.ownsRow w.heap.size 113 1 v (XM [uD,uA,uB,uI] [⟨b,1,none⟩,⟨b,2,none⟩,⟨b,3,none⟩,⟨b,4,none⟩]).length ((XM [uD,uA,uB,uI] [⟨b,1,none⟩,⟨b,2,none⟩,⟨b,3,none⟩,⟨b,4,none⟩]).map ZK))/\w'.cell? ⟨w.heap.size,1,none⟩=some (.bool uD)/\w'.cell? ⟨w.heap.size,2,none⟩=some (.bool uA)/\w'.cell? ⟨w.heap.size,3,none⟩=some (.bool uB)/\w'.cell? ⟨w.heap.size,4,none⟩=some (.bool uI))):=Xa (by
  refine(Kn (some ⟨W0.heap.size+1,0,none⟩) (some ⟨W0.heap.size,0,none⟩) 4 4 [uD,uA,uB,uI] [⟨b,1,none⟩,⟨b,2,none⟩,⟨b,3,none⟩,⟨b,4,none⟩] W0.heap.size (W0.heap.size+2) (((W0.alloc (.cells #[.pointer (some ⟨b,1,none⟩),.pointer (some ⟨b,2,none⟩),.pointer (some ⟨b,3,none⟩),.pointer (some ⟨b,4,none⟩)] 113)).alloc (.cells #[.bool uD,.bool uA,.bool uB,.bool uI] 4)).drew) (by show _<=((W0.alloc (.cells #[.pointer (some ⟨b,1,none⟩),.pointer (some ⟨b,2,none⟩),.pointer (some ⟨b,3,none⟩),.pointer (some ⟨b,4,none⟩)] 113)).alloc (.cells #[.bool uD,.bool uA,.bool uB,.bool uI] 4)).heap.size;simp) (Xa (Td W0 _ _ _ _)) (Xa (Te W0 _ _ _ _)) (Xa rfl) (by simp)).mono ?_;rintro e w' ⟨v,rfl,h1,h2⟩;have h3:Below W0.heap.size W0 w':=(Xb (Xb (Below.refl W0.heap.size W0) _) _).drew.trans (h1.mono (by show _<=((W0.alloc (.cells #[.pointer (some ⟨b,1,none⟩),.pointer (some ⟨b,2,none⟩),.pointer (some ⟨b,3,none⟩),.pointer (some ⟨b,4,none⟩)] 113)).alloc (.cells #[.bool uD,.bool uA,.bool uB,.bool uI] 4)).heap.size;simp;omega));exact⟨v,rfl,Xa (HBW.trans (h3.mono (by omega))),Xa (Yn h2 (by show _<=((W0.alloc (.cells #[.pointer (some ⟨b,1,none⟩),.pointer (some ⟨b,2,none⟩),.pointer (some ⟨b,3,none⟩),.pointer (some ⟨b,4,none⟩)] 113)).alloc (.cells #[.bool uD,.bool uA,.bool uB,.bool uI] 4)).heap.size;simp;omega)),(h3.cell (p:=⟨w.heap.size,1,none⟩) hlt).trans g1,(h3.cell (p:=⟨w.heap.size,2,none⟩) hlt).trans g2,(h3.cell (p:=⟨w.heap.size,3,none⟩) hlt).trans g3,(h3.cell (p:=⟨w.heap.size,4,none⟩) hlt).trans g4⟩)
 go_region_held3 (fun w'=>w'.cell? ⟨w.heap.size,1,none⟩=some (.bool uD)/\w'.cell? ⟨w.heap.size,2,none⟩=some (.bool uA)/\w'.cell? ⟨w.heap.size,3,none⟩=some (.bool uB)/\w'.cell? ⟨w.heap.size,4,none⟩=some (.bool uI)) (go_keep)
  (first
   | (go_at_call 58;with_reducible refine HCH1.out.mono ?_;rintro e w5 ⟨v5,rfl,HB5,HO5,f1,f2,f3,f4⟩)
   | (go_at_call 58;with_reducible refine HCH2.out.mono ?_;rintro e w5 ⟨v5,rfl,HB5,HO5,f1,f2,f3,f4⟩))
 all_goals
  go_wp2
  go_ret
  exact⟨_,rfl,HB5.out,HO5.out⟩
theorem U0(b:Nat)(k:Nat)(a tg els:Int)(w:World)(hi:Hid (Y5 w b 0 ⟨k,a,tg,els⟩))(h1:1<=k)(h2:k<=3)(ht:Hid (XR w)) :
 Calls Tryz.prog 38 #[.pointer (some ⟨b,0,none⟩)] w fun e w'=>∃v,e=.returned v/\Below w.heap.size w w'/\w'.ownsRow w.heap.size 113 1 v (XM [(k:Int) != 1,(k:Int) != 3,(k:Int)==2] [⟨b,1,none⟩,⟨b,2,none⟩,⟨b,3,none⟩]).length ((XM [(k:Int) != 1,(k:Int) != 3,(k:Int)==2] [⟨b,1,none⟩,⟨b,2,none⟩,⟨b,3,none⟩]).map ZK):=by
 obtain⟨q0,q1,q2,q3⟩:=hi.out;simp only at q0 q1 q2 q3;obtain⟨c0,c1,c2,c3⟩:=ht.2 k h1 h2;have hz:=ht.1;generalize ((k:Int) != 1)=uA at *;generalize ((k:Int) != 3)=uT at *;generalize ((k:Int)==2)=uE at *
 go_enter Tryz.func38,Tryz.ntmps38
 go_wp2_with fail
 have e1:(w.alloc (.cells #[.string (Xs (ZV k)),.bool uA,.bool uT,.bool uE] 79)).heap.size=w.heap.size+1:=by simp
 have g1:(w.alloc (.cells #[.string (Xs (ZV k)),.bool uA,.bool uT,.bool uE] 79)).cell? ⟨w.heap.size,1,none⟩=some (.bool uA):=by simp
 have g2:(w.alloc (.cells #[.string (Xs (ZV k)),.bool uA,.bool uT,.bool uE] 79)).cell? ⟨w.heap.size,2,none⟩=some (.bool uT):=by simp
 have g3:(w.alloc (.cells #[.string (Xs (ZV k)),.bool uA,.bool uT,.bool uE] 79)).cell? ⟨w.heap.size,3,none⟩=some (.bool uE):=by simp
 have HBW:Hid (Below w.heap.size w (w.alloc (.cells #[.string (Xs (ZV k)),.bool uA,.bool uT,.bool uE] 79))):=Xa (Xb (Below.refl _ _) _);generalize w.alloc (.cells #[.string (Xs (ZV k)),.bool uA,.bool uT,.bool uE] 79)=W0 at *;clear q0 q1 q2 q3 c0 c1 c2 c3;have HE1:=Xa e1;have hlt:w.heap.size<W0.heap.size:=by omega
 clear e1;have HCH1:Hid (Calls Tryz.prog 58 #[.slice (some ⟨W0.heap.size,0,none⟩) 3 3,.slice (some ⟨W0.heap.size+1,0,none⟩) 3 3] (((W0.alloc (.cells #[.bool uA,.bool uT,.bool uE] 4)).alloc (.cells #[.pointer (some ⟨b,1,none⟩),.pointer (some ⟨b,2,none⟩),.pointer (some ⟨b,3,none⟩)] 113)).drew) (fun e w'=>∃v,e=.returned v/\Hid (Below w.heap.size w w')/\Hid (w'.ownsRow w.heap.size 113 1 v (XM [uA,uT,uE] [⟨b,1,none⟩,⟨b,2,none⟩,⟨b,3,none⟩]).length ((XM [uA,uT,uE] [⟨b,1,none⟩,⟨b,2,none⟩,⟨b,3,none⟩]).map ZK))/\w'.cell? ⟨w.heap.size,1,none⟩=some (.bool uA)/\w'.cell? ⟨w.heap.size,2,none⟩=some (.bool uT)/\w'.cell? ⟨w.heap.size,3,none⟩=some (.bool uE))):=Xa (by
  refine(Kn (some ⟨W0.heap.size,0,none⟩) (some ⟨W0.heap.size+1,0,none⟩) 3 3 [uA,uT,uE] [⟨b,1,none⟩,⟨b,2,none⟩,⟨b,3,none⟩] W0.heap.size (W0.heap.size+2) (((W0.alloc (.cells #[.bool uA,.bool uT,.bool uE] 4)).alloc (.cells #[.pointer (some ⟨b,1,none⟩),.pointer (some ⟨b,2,none⟩),.pointer (some ⟨b,3,none⟩)] 113)).drew) (by show _<=((W0.alloc (.cells #[.bool uA,.bool uT,.bool uE] 4)).alloc (.cells #[.pointer (some ⟨b,1,none⟩),.pointer (some ⟨b,2,none⟩),.pointer (some ⟨b,3,none⟩)] 113)).heap.size;simp) (Xa (Te W0 _ _ _ _)) (Xa (Td W0 _ _ _ _)) (Xa rfl) (by simp)).mono ?_;rintro e w' ⟨v,rfl,h1,h2⟩;have h3:Below W0.heap.size W0 w':=(Xb (Xb (Below.refl W0.heap.size W0) _) _).drew.trans (h1.mono (by show _<=((W0.alloc (.cells #[.bool uA,.bool uT,.bool uE] 4)).alloc (.cells #[.pointer (some ⟨b,1,none⟩),.pointer (some ⟨b,2,none⟩),.pointer (some ⟨b,3,none⟩)] 113)).heap.size;simp;omega));exact⟨v,rfl,Xa (HBW.trans (h3.mono (by omega))),Xa (Yn h2 (by show _<=((W0.alloc (.cells #[.bool uA,.bool uT,.bool uE] 4)).alloc (.cells #[.pointer (some ⟨b,1,none⟩),.pointer (some ⟨b,2,none⟩),.pointer (some ⟨b,3,none⟩)] 113)).heap.size;simp;omega)),(h3.cell (p:=⟨w.heap.size,1,none⟩) hlt).trans g1,(h3.cell (p:=⟨w.heap.size,2,none⟩) hlt).trans g2,(h3.cell (p:=⟨w.heap.size,3,none⟩) hlt).trans g3⟩)
 have HCH2:Hid (Calls Tryz.prog 58 #[.slice (some ⟨W0.heap.size+1,0,none⟩) 3 3,.slice (some ⟨W0.heap.size,0,none⟩) 3 3] (((W0.alloc (.cells #[.pointer (some ⟨b,1,none⟩),.pointer (some ⟨b,2,none⟩),.pointer (some ⟨b,3,none⟩)] 113)).alloc (.cells #[.bool uA,.bool uT,.bool uE] 4)).drew) (fun e w'=>∃v,e=.returned v/\Hid (Below w.heap.size w w')/\Hid (w'.ownsRow w.heap.size 113 1 v (XM [uA,uT,uE] [⟨b,1,none⟩,⟨b,2,none⟩,⟨b,3,none⟩]).length ((XM [uA,uT,uE] [⟨b,1,none⟩,⟨b,2,none⟩,⟨b,3,none⟩]).map ZK))/\w'.cell? ⟨w.heap.size,1,none⟩=some (.bool uA)/\w'.cell? ⟨w.heap.size,2,none⟩=some (.bool uT)/\w'.cell? ⟨w.heap.size,3,none⟩=some (.bool uE))):=Xa (by
  refine(Kn (some ⟨W0.heap.size+1,0,none⟩) (some ⟨W0.heap.size,0,none⟩) 3 3 [uA,uT,uE] [⟨b,1,none⟩,⟨b,2,none⟩,⟨b,3,none⟩] W0.heap.size (W0.heap.size+2) (((W0.alloc (.cells #[.pointer (some ⟨b,1,none⟩),.pointer (some ⟨b,2,none⟩),.pointer (some ⟨b,3,none⟩)] 113)).alloc (.cells #[.bool uA,.bool uT,.bool uE] 4)).drew) (by show _<=((W0.alloc (.cells #[.pointer (some ⟨b,1,none⟩),.pointer (some ⟨b,2,none⟩),.pointer (some ⟨b,3,none⟩)] 113)).alloc (.cells #[.bool uA,.bool uT,.bool uE] 4)).heap.size;simp) (Xa (Td W0 _ _ _ _)) (Xa (Te W0 _ _ _ _)) (Xa rfl) (by simp)).mono ?_;rintro e w' ⟨v,rfl,h1,h2⟩;have h3:Below W0.heap.size W0 w':=(Xb (Xb (Below.refl W0.heap.size W0) _) _).drew.trans (h1.mono (by show _<=((W0.alloc (.cells #[.pointer (some ⟨b,1,none⟩),.pointer (some ⟨b,2,none⟩),.pointer (some ⟨b,3,none⟩)] 113)).alloc (.cells #[.bool uA,.bool uT,.bool uE] 4)).heap.size;simp;omega));exact⟨v,rfl,Xa (HBW.trans (h3.mono (by omega))),Xa (Yn h2 (by show _<=((W0.alloc (.cells #[.pointer (some ⟨b,1,none⟩),.pointer (some ⟨b,2,none⟩),.pointer (some ⟨b,3,none⟩)] 113)).alloc (.cells #[.bool uA,.bool uT,.bool uE] 4)).heap.size;simp;omega)),(h3.cell (p:=⟨w.heap.size,1,none⟩) hlt).trans g1,(h3.cell (p:=⟨w.heap.size,2,none⟩) hlt).trans g2,(h3.cell (p:=⟨w.heap.size,3,none⟩) hlt).trans g3⟩)
 go_region_held3 (fun w'=>w'.cell? ⟨w.heap.size,1,none⟩=some (.bool uA)/\w'.cell? ⟨w.heap.size,2,none⟩=some (.bool uT)/\w'.cell? ⟨w.heap.size,3,none⟩=some (.bool uE)) (go_keep)
  (first
   | (go_at_call 58;with_reducible refine HCH1.out.mono ?_;rintro e w5 ⟨v5,rfl,HB5,HO5,f1,f2,f3⟩)
   | (go_at_call 58;with_reducible refine HCH2.out.mono ?_;rintro e w5 ⟨v5,rfl,HB5,HO5,f1,f2,f3⟩))
 all_goals
  go_wp2
  go_ret
  exact⟨_,rfl,HB5.out,HO5.out⟩
end Go.Proofs.YtkehcdfalcakmaaGreatDoor
