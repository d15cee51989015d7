import Derived.Test.YtlmgmkmomaileaaGreatDoorML2
namespace Go.Proofs.YtlmgmkmomaileaaGreatDoor
set_option maxHeartbeats 4000000
set_option maxRecDepth 100000
open Go.RowKit
structure BhW(w wr:World)(n:Nat)(lv op:Nat->Bool):Prop where
 low:Below w.heap.size w wr
 r1:wr.rowIs w.heap.size 4 n (fun b=>.bool (lv b))
 r2:wr.rowIs (w.heap.size+1) 4 n (fun b=>.bool (op b))
 sz:w.heap.size+2<=wr.heap.size
section
variable {w wr wr' : World} {n : Nat} {lv op : Nat -> Bool}
theorem BhW.below(h:BhW w wr n lv op)(k:Below wr.heap.size wr wr'):BhW w wr' n lv op :=
 ⟨Xd h.low k,h.r1.of_block (k.block _ h.r1.lt),h.r2.of_block (k.block _ h.r2.lt),Nat.le_trans h.sz k.size⟩
theorem BhW.congr{lv' op':Nat->Bool}(h:BhW w wr n lv op)(e1:∀z,z<n->lv z=lv' z)(e2:∀z,z<n->op z=op' z):BhW w wr n lv' op':=⟨h.low,TL (C:=Value.bool) h.r1 e1,TL (C:=Value.bool) h.r2 e2,h.sz⟩
theorem BhW.set1(h:BhW w wr n lv op)(b:Nat)(q:Bool):BhW w (wr.setCell ⟨w.heap.size,b,none⟩ (.bool q)) n (fun z=>if z=b then q else lv z) op :=
 ⟨h.low.setCell (Nat.le_refl _) _,VA (C:=Value.bool) h.r1 b q,h.r2.setOther (by show w.heap.size+1≠w.heap.size;omega) _,by rw[Xe];exact h.sz⟩
theorem BhW.set2(h:BhW w wr n lv op)(b:Nat)(q:Bool):BhW w (wr.setCell ⟨w.heap.size+1,b,none⟩ (.bool q)) n lv (fun z=>if z=b then q else op z) :=
 ⟨h.low.setCell (by show w.heap.size<=w.heap.size+1;omega) _,h.r1.setOther (by show w.heap.size≠w.heap.size+1;omega) _,VA (C:=Value.bool) h.r2 b q,by rw[Xe];exact h.sz⟩
end
def RnI(xs:List Xh)(v n k:Nat)(lv:Nat->Bool):Prop:=(∀z,z<n->lv z=true->Vl xs v z)/\(∀z,z<n->barB xs z v=1->lv z=true)/\(n<k+T1 lv n\/(k=n/\T1 lv n=0))
def BhR(w wr:World)(xs:List Xh)(v n:Nat)(lv op:Nat->Bool)(gr:Value)(b:Nat):Prop:=∃(g:Bool)(lv':Nat->Bool),gr=.bool g/\BhW w wr n lv' op/\BhI xs v n lv lv' b g
def BhJ(w wr:World)(xs:List Xh)(v n:Nat)(lv op:Nat->Bool)(gr:Value)(b j:Nat):Prop:=∃(g:Bool)(lv':Nat->Bool),gr=.bool g/\BhW w wr n lv' op/\BhI xs v n lv lv' b g/\(lv' b=false->∀r,r<j->∀t,(XV xs b)[r]?=some t->¬(lv' t=true/\YB xs t v=false))
theorem Zem(V v n c bf of:Nat)(xs:List Xh)(w:World)(hF:Hid (Y5 w (some ⟨bf,of,none⟩) xs))(hx:Hid (n=xs.length))(ho:Hid (Jd V xs)) :
 Calls Tryz.prog 92 #[.slice (some ⟨bf,of,none⟩) n c,.int .i64 (v:Int)] w fun e w'=>∃g,e=.returned (.slice (some ⟨g,0,none⟩) n n)/\Below w.heap.size w w'/\w.heap.size<=g/\∃lv:Nat->Bool,w'.rowIs g 4 n (fun b=>.bool (lv b))/\∀b,b<n->(lv b=true↔Vl xs v b):=by
 have hn:n<=1000:=by have:=hx.out;have:=ho.okf.n2;omega
 have hn0:0<n:=by have:=hx.out;have:=ho.okf.n1;omega
 have hmk:=run_make_row' (P:=Tryz.prog) 153 4 (.bool false) 1 Tryz.underlying153 Tryz.infoBo rfl .i64 .i64 n oM oM;have HR1:=Xa (World.rowIs_made w (.bool false) n 4);have HR2:=Xa (World.rowIs_made (w.alloc (.cells (madeCells #[.bool false] n) 4)) (.bool false) n 4)
 go_enter Tryz.func92,Tryz.ntmps92
 go_wp2_with fail
 have HW0:Hid (BhW w ((w.alloc (.cells (madeCells #[.bool false] n) 4)).alloc (.cells (madeCells #[.bool false] n) 4)) n (fun z=>decide (z<0)&&decide (barB xs z v=1)) (fun z=>decide (z<0)&&decide (barB xs z v=0))):=Xa ⟨Xb (Xb (Below.refl _ _) _) _,TL (C:=Value.bool) (HR1.alloc _) (fun z _=>sP),TL (C:=Value.bool) (by have:=HR2.out;rwa[World.size_alloc]at this) (fun z _=>sP),sP⟩;clear HR1 HR2 hmk;generalize (w.alloc (.cells (madeCells #[.bool false] n) 4)).alloc (.cells (madeCells #[.bool false] n) 4)=w2 at *
 go_loopw [7] (fun i wr=>∃b:Nat,b<=n/\i=.int .i64 b/\Hid (BhW w wr n (fun z=>decide (z<b)&&decide (barB xs z v=1)) (fun z=>decide (z<b)&&decide (barB xs z v=0)))) (fun i _=>n-(intOf i).toNat)
 case atStart=>exact⟨0,Nat.zero_le _,rfl,HW0⟩
 case round =>
  clear HW0;obtain⟨b,hb,rfl,HW⟩:=hrel;by_cases hlt:b<n
  ·obtain⟨a0,n0,a1,n1,a2,n2,a3,n3,a4,n4,a5,n5,c0,c1,c2,c3,c4,c5,hbf,x0,x1,x2,x3,x4,x5,_,_,_,_,_,hfc⟩:=Y5.row ho.out hF.out HW.low (show b<xs.length by have:=hx.out;omega)
   have HBR:=Xa (hfc.bare v);clear hfc
   go_wp2_with fail
   refine HBR.mono ?_;rintro e w3 ⟨rfl,hb3⟩;have HW3:=Xa (HW.below hb3);have k1:=HW3.r1.cell hlt;have k2:=HW3.r2.cell hlt;have z1:=HW3.r1.frozen b;have z2:=HW3.r2.frozen b;clear hb3 HBR x0 x1 x2 x3 x4 x5;obtain⟨q1,hq1⟩:∃q:Bool,(((barB xs b v:Nat):Int)==1)=q:=⟨_,rfl⟩;obtain⟨q2,hq2⟩:∃q:Bool,(((barB xs b v:Nat):Int)==0)=q:=⟨_,rfl⟩;have HQ:Hid (q1=decide (barB xs b v=1)/\q2=decide (barB xs b v=0)):=Xa (by
    rw[<-hq1,<-hq2];constructor
    ·rw[Bool.eq_iff_iff,beq_iff_eq,decide_eq_true_eq];omega
    ·rw[Bool.eq_iff_iff,beq_iff_eq,decide_eq_true_eq];omega)
   have k2':∀u,(w3.setCell ⟨w.heap.size,b,none⟩ u).cell? ⟨w.heap.size+1,b,none⟩=w3.cell? ⟨w.heap.size+1,b,none⟩:=fun u=>World.cell?_of_block (Below.heap_setCell _ _ _ _ (by show w.heap.size+1≠w.heap.size;omega))
   go_wp2_with fail
   exact⟨⟨b+1,oM,gM,Xa (((HW3.set1 b q1).set2 b q2).congr (fun z hz=>by
    by_cases e:z=b
    ·subst e;simp[HQ.1]
    ·have:z<b+1↔z<b:=oM
     simp[e,this]) (fun z hz=>by
    by_cases e:z=b
    ·subst e;simp[HQ.2]
    ·have:z<b+1↔z<b:=oM
     simp[e,this]))⟩,by simp[intOf];omega⟩
  ·have hbe:n=b:=oM
   have HW1:Hid (BhW w wr n (fun z=>decide (barB xs z v=1)) (fun z=>decide (barB xs z v=0))):=Xa (HW.congr (fun z hz=>by simp[<-hbe,hz]) (fun z hz=>by simp[<-hbe,hz]));subst hbe;clear HW;have HRN:Hid (RnI xs v n n (fun z=>decide (barB xs z v=1))):=Xa ⟨fun z hz h=>Vl.here (by have:=hx.out;omega) (of_decide_eq_true h),fun z _ h=>decide_eq_true h,oM⟩
   go_wp2_with fail
   generalize (fun z=>decide (barB xs z v=1))=lv0 at *;generalize hop:(fun z=>decide (barB xs z v=0))=op0 at *;have HOP:Hid (∀z,op0 z=decide (barB xs z v=0)):=Xa (fun z=>by rw[<-hop]);clear hop;generalize wr=w5 at *
   go_loopw [9] (fun r wr=>∃(k:Nat)(lv:Nat->Bool),k<=n/\r=.int .i64 k/\Hid (BhW w wr n lv op0)/\Hid (RnI xs v n k lv)) (fun r _=>(intOf r).toNat)
   case atStart=>exact⟨n,lv0,Nat.le_refl _,rfl,HW1,HRN⟩
   case round =>
    clear HW1 HRN;obtain⟨k,lv,hk,rfl,HW1,HRN⟩:=hrel;have hk0:0<k:=by
     have h1:=HRN.2.2;have h2:=ZeI lv n;omega
    have HBI:Hid (BhR w wr xs v n lv op0 (.bool false) 0):=Xa ⟨false,lv,rfl,HW1.out,BhI.start HRN.1 HRN.2.1⟩;clear HW1
    go_wp2_with fail
    generalize wr=w6 at *
    go_loopw [10,11] (fun gr bb wr=>∃b:Nat,b<=n/\bb=.int .i64 b/\Hid (BhR w wr xs v n lv op0 gr b)) (fun _ bb _=>n-(intOf bb).toNat)
    case atStart=>exact⟨0,Nat.zero_le _,rfl,HBI⟩
    case round =>
     clear HBI;obtain⟨b,hb,rfl,HBI⟩:=hrel;by_cases hlt:b<n
     ·have hbx:b<xs.length:=by have:=hx.out;omega
      obtain⟨a0,n0,a1,n1,a2,n2,a3,n3,a4,n4,a5,n5,c0,c1,c2,c3,c4,c5,hbf,y0,_,_,_,_,_,hn0',_,_,_,_,hfc⟩:=Y5.row ho.out hF.out (Below.refl w.heap.size w) hbx;have HT:=Xa hfc.t;clear hfc;have HBJ:Hid (BhJ w wr xs v n lv op0 u10 b 0):=Xa (by
       obtain⟨g,lv',e,h1,h2⟩:=HBI.out;exact⟨g,lv',e,h1,h2,fun _ r hr=>absurd hr oM⟩)
      clear HBI
      go_wp2_with fail
      generalize wr=w7 at *
      go_loopw [10,12] (fun gr jj wr=>∃j:Nat,j<=n0/\jj=.int .i64 j/\Hid (BhJ w wr xs v n lv op0 gr b j)) (fun _ jj _=>n0-(intOf jj).toNat)
      case atStart=>exact⟨0,Nat.zero_le _,rfl,HBJ⟩
      case round =>
       clear HBJ;obtain⟨j,hj,rfl,HBJ⟩:=hrel;obtain⟨g,lv',rfl,hW,hI,hJ⟩:=HBJ.out;have HW:=Xa hW;have HI:=Xa hI;have HJ:=Xa hJ;have k0:=(hW.low.cell (p:=⟨bf,of+b*6,none⟩) hbf).trans y0;have k1:=hW.r1.cell hlt;have k2:=hW.r2.cell hlt;clear HBJ hW hI hJ;by_cases hop:barB xs b v=0
       ·have ho1:op0 b=true:=by rw[HOP.out];exact decide_eq_true hop
        rw[ho1]at k2;cases hlb:lv' b with
        | true =>
         rw[hlb]at k1;have HNX:Hid (BhR w wr xs v n lv op0 (.bool g) (b+1)):=Xa ⟨g,lv',rfl,HW.out,HI.next (fun _ _ _ _ _ _=>hlb)⟩;clear hlb ho1
         go_wp2_with fail
         exact⟨⟨b+1,oM,gM,HNX⟩,by simp[intOf];omega⟩
        | false =>
         rw[hlb]at k1;by_cases hjn:j<n0
         ·have hjt:j<(XV xs b).length:=by rw[<-HT.1];exact hjn
          have hjI:j<(Xs (XV xs b)).length:=by simp[Xs];exact hjt
          obtain⟨bt,ot,rfl,⟨_,hbt⟩,hct⟩:=HT.2 j hjI;have ect:(Xs (XV xs b))[j]=(((XV xs b)[j]:Nat):Int):=by simp[Xs]
          rw[ect]at hct;have htg:=List.getElem_mem hjt;have htx:=ho.okf.tg _ hbx _ htg;have HGE:Hid ((XV xs b)[j]?=some (XV xs b)[j]):=Xa (List.getElem?_eq_getElem hjt);obtain⟨t,ht⟩:∃t,t=(XV xs b)[j]:=⟨_,rfl⟩;rw[<-ht]at hct htg htx HGE;have HTG:=Xa htg;have htn:t<n:=by have:=hx.out;omega
          have kt:=(HW.low.cell (p:=⟨bt,ot+j,none⟩) hbt).trans hct;have kl:=HW.r1.cell htn;obtain⟨d0,m0,d1,m1,d2,m2,d3,m3,d4,m4,d5,m5,f0,f1,f2,f3,f4,f5,_,_,t1,_,_,_,_,_,hm1,_,_,_,hft⟩:=Y5.row ho.out hF.out HW.low htx;have HHP:=Xa (Y7 d1 m1 f1 (v:Int) (phL xs t) 0 w.heap.size wr (Xa hft.p.2) (Xa hft.p.1) oM);have HPB:Hid (YB xs t v=hasI (phL xs t) (v:Int)):=Xa (Zbr xs t v);clear hct htg ht ect hft;cases hlt':lv' t with
          | false =>
           rw[hlt']at kl;have HNX:Hid (BhJ w wr xs v n lv op0 (.bool g) b (j+1)):=Xa ⟨g,lv',rfl,HW.out,HI.out,fun h r hr z hz=>by
            by_cases e:r=j
            ·subst e
             rw[HGE.out]at hz;injection hz with hz;subst hz;rw[hlt'];exact fun h=>by cases h.1
            ·exact HJ.out h r oM z hz⟩
           clear hlt' hlb ho1
           go_wp2_with fail
           exact⟨⟨j+1,oM,gM,HNX⟩,by simp[intOf];omega⟩
          | true =>
           rw[hlt']at kl;have HLT:=Xa hlt';have HLB:=Xa hlb;have HP0:=Xa hop;have z1:=HW.r1.frozen b;clear hlt' hlb ho1 hop
           go_wp2_with fail
           refine HHP.mono ?_;rintro e w8 ⟨rfl,hw8⟩;subst hw8;cases hph:hasI (phL xs t) (v:Int)with
           | true =>
            have HNX:Hid (BhJ w w8 xs v n lv op0 (.bool g) b (j+1)):=Xa ⟨g,lv',rfl,HW.out,HI.out,fun h r hr z hz=>by
             by_cases e:r=j
             ·subst e
              rw[HGE.out]at hz;injection hz with hz;subst hz;rw[HPB.out,hph];exact fun h=>by cases h.2
             ·exact HJ.out h r oM z hz⟩
            clear hph
            go_wp2_with fail
            refine⟨?_,by simp[intOf];omega⟩
            first
             | exact⟨j+1,oM,gM,HNX⟩
             | ((repeat apply Exists.intro);refine⟨?_,rfl⟩;exact⟨j+1,oM,gM,HNX⟩)
           | false =>
            have HNX:Hid (BhJ w (w8.setCell ⟨w.heap.size,b,none⟩ (.bool true)) xs v n lv op0 (.bool true) b (j+1)):=Xa ⟨true,_,rfl,HW.set1 b true,HI.set hx.out hlt HTG.out htn HP0.out HLB.out HLT.out (by rw[HPB.out];exact hph),fun h=>by simp at h⟩;clear hph
            go_wp2_with fail
            refine⟨?_,by simp[intOf];omega⟩
            first
             | exact⟨j+1,oM,gM,HNX⟩
             | ((repeat apply Exists.intro);refine⟨?_,rfl⟩;exact⟨j+1,oM,gM,HNX⟩)
         ·have HNX:Hid (BhR w wr xs v n lv op0 (.bool g) (b+1)):=Xa ⟨g,lv',rfl,HW.out,HI.next (fun _ _ t ht h1 h2=>by
           obtain⟨r,hr,e⟩:=List.getElem_of_mem ht;exact absurd ⟨h1,h2⟩ (HJ.out hlb r (by have:=HT.1;omega) t (by rw[List.getElem?_eq_getElem hr,e])))⟩
          clear hlb ho1
          go_wp2_with fail
          exact⟨⟨b+1,oM,gM,HNX⟩,by simp[intOf];omega⟩
       ·have ho1:op0 b=false:=by rw[HOP.out];exact decide_eq_false hop
        rw[ho1]at k2;have HNX:Hid (BhR w wr xs v n lv op0 (.bool g) (b+1)):=Xa ⟨g,lv',rfl,HW.out,HI.next (fun _ h=>absurd h hop)⟩;clear ho1 hop
        go_wp2_with fail
        exact⟨⟨b+1,oM,gM,HNX⟩,by simp[intOf];omega⟩
     ·have hbe:b=n:=oM
      subst hbe;obtain⟨g,lv',rfl,hW,hI⟩:=HBI.out;have HW:=Xa hW;have HI:=Xa hI;clear HBI hW hI;cases g with
      | true =>
       have HRN2:Hid (RnI xs v b (k-1) lv'):=Xa ⟨HI.snd,HI.here,by
        have h1:=HI.yes rfl;have h2:=HRN.2.2;have h3:=ZeI lv' b;omega⟩
       go_wp2_with fail
       exact⟨⟨k-1,lv',oM,gM,HW,HRN2⟩,by simp[intOf];omega⟩
      | false =>
       go_wp2_with fail
       go_ret
       exact⟨w.heap.size,rfl,HW.low,Nat.le_refl _,lv',HW.r1,HI.done hx.out⟩
end Go.Proofs.YtlmgmkmomaileaaGreatDoor
namespace Go.Proofs.YtlmgmkmomaileaaGreatDoor
set_option maxHeartbeats 4000000
set_option maxRecDepth 100000
open Go.RowKit
def SmX(a b:World):Prop:=a=b
def LoS(xs:List Xh)(v b:Nat)(w:World)(e:Ending)(w':World):Prop:=∃s:Bool,e=.returned (.bool s)/\(s=true↔Lou xs v b)/\Below w.heap.size w w'
theorem ZbW(V v n c bf of g b:Nat)(xs:List Xh)(lv:Nat->Bool)(w:World)(hF:Hid (Y5 w (some ⟨bf,of,none⟩) xs))(hx:Hid (n=xs.length))(ho:Hid (Jd V xs))(hb:b<n)(hr:Hid (w.rowIs g 4 n (fun z=>.bool (lv z))))(hlv:Hid (∀z,z<n->(lv z=true↔Vl xs v z))) :
 Calls Tryz.prog 93 #[.slice (some ⟨bf,of,none⟩) n c,.slice (some ⟨g,0,none⟩) n n,.int .i64 (v:Int),.int .i64 (b:Int)] w fun e w'=>LoS xs v b w e w':=by
 have hn:n<=1000:=by have:=hx.out;have:=ho.okf.n2;omega
 have hbx:b<xs.length:=by have:=hx.out;omega
 obtain⟨a0,n0,a1,n1,a2,n2,a3,n3,a4,n4,a5,n5,c0,c1,c2,c3,c4,c5,hbf,x0,_,x2,_,_,_,hn0',_,hn2',_,_,hfc⟩:=Y5.row ho.out hF.out (Below.refl w.heap.size w) hbx;have HT:=Xa hfc.t;have HE:=Xa (Za8 a2 n2 c2 (v:Int) (XG xs b) 0 w.heap.size w (Xa hfc.e.2) (Xa hfc.e.1) oM);clear hfc;cases hed:hasI (XG xs b) (v:Int)with
 | true =>
  have HLO:Hid (Lou xs v b):=Xa (Or.inl (X8.1 hed));rw[hed]at HE;clear hed
  go_enter Tryz.func93,Tryz.ntmps93
  go_wp2_with fail
  refine HE.mono ?_;rintro e w3 ⟨rfl,hw3⟩;have e3:=hw3.symm;subst e3
  go_wp2_with fail
  go_ret
  exact⟨true,rfl,⟨fun _=>HLO.out,fun _=>rfl⟩,Below.refl _ _⟩
 | false =>
  have HNE:Hid (¬(v:Int)∈XG xs b):=Xa (fun h=>by rw[X8.2 h]at hed;cases hed);rw[hed]at HE;clear hed
  go_enter Tryz.func93,Tryz.ntmps93
  go_wp2_with fail
  refine HE.mono ?_;rintro e w3 ⟨rfl,hw3⟩;have e3:=hw3.symm;subst e3;clear HE
  go_wp2_with fail
  go_loopw [9] (fun i wr=>∃j:Nat,j<=n0/\i=.int .i64 j/\Hid (SmX wr w)/\Hid (∀r,r<j->∀t,(XV xs b)[r]?=some t->¬Lin xs v t)) (fun i _=>n0-(intOf i).toNat)
  case atStart=>exact⟨0,Nat.zero_le _,rfl,Xa rfl,Xa (fun r hr=>absurd hr oM)⟩
  case round =>
   obtain⟨j,hj,rfl,HSW,HNO⟩:=hrel;have esw:w=wr:=Eq.symm HSW.out;clear HSW;subst esw;by_cases hjn:j<n0
   ·have hjt:j<(XV xs b).length:=by rw[<-HT.1];exact hjn
    have hjI:j<(Xs (XV xs b)).length:=by simp[Xs];exact hjt
    obtain⟨bt,ot,rfl,⟨_,hbt⟩,hct⟩:=HT.2 j hjI;have ect:(Xs (XV xs b))[j]=(((XV xs b)[j]:Nat):Int):=by simp[Xs]
    rw[ect]at hct;have htg:=List.getElem_mem hjt;have htx:=ho.okf.tg _ hbx _ htg;have HGE:Hid ((XV xs b)[j]?=some (XV xs b)[j]):=Xa (List.getElem?_eq_getElem hjt);obtain⟨t,ht⟩:∃t,t=(XV xs b)[j]:=⟨_,rfl⟩;rw[<-ht]at hct htg htx HGE;have HTG:=Xa htg;have htn:t<n:=by have:=hx.out;omega
    have kl:=hr.cell htn;have HLV:=Xa (hlv.out t htn);obtain⟨d0,m0,d1,m1,d2,m2,d3,m3,d4,m4,d5,m5,f0,f1,f2,f3,f4,f5,_,_,t1,_,_,_,_,_,hm1,_,_,_,hft⟩:=Y5.row ho.out hF.out (Below.refl w.heap.size w) htx;have HHP:=Xa (Y7 d1 m1 f1 (v:Int) (phL xs t) 0 w.heap.size w (Xa hft.p.2) (Xa hft.p.1) oM);have HPB:Hid (YB xs t v=hasI (phL xs t) (v:Int)):=Xa (Zbr xs t v);clear htg ht ect hft;have HNN:Hid (¬Lin xs v t->∀r,r<j+1->∀t,(XV xs b)[r]?=some t->¬Lin xs v t):=Xa (fun h r hr z hz=>by
     by_cases e:r=j
     ·subst e
      rw[HGE.out]at hz;injection hz with hz;subst hz;exact h
     ·exact HNO.out r oM z hz)
    cases hlt':lv t with
    | false =>
     rw[hlt']at kl;have HNX:Hid (∀r,r<j+1->∀t,(XV xs b)[r]?=some t->¬Lin xs v t):=Xa (HNN.out (fun h=>by rw[HLV.2 h.2]at hlt';cases hlt'));clear hlt'
     go_wp2_with fail
     exact⟨⟨j+1,oM,gM,Xa rfl,HNX⟩,by simp[intOf];omega⟩
    | true =>
     rw[hlt']at kl;have HLB:Hid (Vl xs v t):=Xa (HLV.1 hlt');clear hlt'
     go_wp2_with fail
     refine HHP.mono ?_;rintro e w8 ⟨rfl,hw8⟩;have e8:=hw8.symm;subst e8;cases hph:hasI (phL xs t) (v:Int)with
     | true =>
      have HNX:Hid (∀r,r<j+1->∀t,(XV xs b)[r]?=some t->¬Lin xs v t):=Xa (HNN.out (fun h=>by have:=h.1;rw[HPB.out,hph]at this;cases this));clear hph
      go_wp2_with fail
      refine⟨?_,by simp[intOf];omega⟩
      first
       | exact⟨j+1,oM,gM,Xa rfl,HNX⟩
       | ((repeat apply Exists.intro);refine⟨?_,rfl⟩;exact⟨j+1,oM,gM,Xa rfl,HNX⟩)
     | false =>
      have HLO:Hid (Lou xs v b):=Xa (Or.inr ⟨t,HTG.out,by rw[HPB.out];exact hph,HLB.out⟩);clear hph
      go_wp2_with fail
      go_ret
      exact⟨true,rfl,⟨fun _=>HLO.out,fun _=>rfl⟩,Below.refl _ _⟩
   ·have HNX:Hid (¬Lou xs v b):=Xa (by
     rintro(h | ⟨t,ht,h⟩)
     ·exact HNE.out h
     ·obtain⟨r,hr,e⟩:=List.getElem_of_mem ht
      exact HNO.out r (by have:=HT.1;omega) t (by rw[List.getElem?_eq_getElem hr,e]) h)
    go_wp2_with fail
    go_ret
    exact⟨false,rfl,⟨fun h=>(by cases h),fun h=>absurd h HNX.out⟩,Below.refl _ _⟩
end Go.Proofs.YtlmgmkmomaileaaGreatDoor
namespace Go.Proofs.YtlmgmkmomaileaaGreatDoor
open Go.RowKit
structure MbS(w:World)(base ns:Nat)(G m:Nat->Nat)(P:Nat->Nat->List Int)(U:Nat->Nat->Value):Prop where
 lt:∀s,s<ns->G s<base
 ne:∀s s',s<ns->s' < ns->s≠s'->G s≠G s'
 row:∀s,s<ns->w.rowIs (G s) 78 (m s) (U s)
 own:∀s i,s<ns->i<m s->w.ownsRow base 2 1 (U s i) (P s i).length ((P s i).map (Value.int .i64))
 dj:∀s i s' j,s<ns->s' < ns->i<m s->j<m s'->(s,i)≠(s',j)->(U s i).ownBlock=none\/(U s i).ownBlock≠(U s' j).ownBlock
section
variable {w w' w1 : World} {base ns : Nat} {G m : Nat -> Nat} {P P' : Nat -> Nat -> List Int} {U : Nat -> Nat -> Value}
theorem MbS.below(h:MbS w base ns G m P U)(k:Below w.heap.size w w'):MbS w' base ns G m P U:=by
 refine⟨h.lt,h.ne,fun s hs=>(h.row s hs).of_block (k.block _ (h.row s hs).lt),fun s i hs hi=>?_,h.dj⟩;refine(h.own s i hs hi).kept (row:=none) ⟨k.os,k.tape,k.output,k.size,fun b hb _=>k.block b hb⟩ ?_;cases (U s i).ownBlock<;>simp
theorem MbS.congr(h:MbS w base ns G m P U)(e:∀s i,s<ns->i<m s->P s i=P' s i):MbS w base ns G m P' U :=
 ⟨h.lt,h.ne,h.row,fun s i hs hi=>by rw[<-e s i hs hi];exact h.own s i hs hi,h.dj⟩
theorem MbS.step(h:MbS w base ns G m P U){s t:Nat}(hs:s<ns)(ht:t<m s)(x:Int)(v':Value)(hg:w.grownBy w1 (U s t).ownBlock)
 (ho:w1.ownsRow base 2 1 v' ((P s t).length+1) ((P s t).map (Value.int .i64)++[.int .i64 x])) (hat:v'.ownBlock=(U s t).ownBlock\/v'.ownBlock=some w.heap.size) :
 MbS (w1.setCell ⟨G s,t,none⟩ v') base ns G m (fun s' i=>if (s',i)=(s,t)then P s t++[x]else P s' i) (fun s' i=>if (s',i)=(s,t)then v' else U s' i):=by
 have hr:∀s',s' < ns->w1.rowIs (G s') 78 (m s') (U s'):=fun s' hs'=>(h.row s' hs').of_block (hg.block _ (h.row s' hs').lt (fun e=>by have:=((h.own s t hs ht).lt _ e.symm).1;have:=h.lt s' hs';omega))
 have fresh:∀s' q,s' < ns->q<m s'->(U s' q).ownBlock=none\/(U s' q).ownBlock≠some w.heap.size:=fun s' q hs' hq=>by
  by_cases e:(U s' q).ownBlock=some w.heap.size
  ·have:=((h.own s' q hs' hq).lt _ e).2;omega
  ·exact Or.inr e
 refine⟨h.lt,h.ne,fun s' hs'=>?_,fun s' i hs' hi=>?_,fun s1 i s2 j h1 h2 hi hj hij=>?_⟩
 ·by_cases e:s'=s
  ·subst e
   exact((hr s' hs').set t v').congr (fun i _=>by by_cases e2:i=t<;>simp[e2])
  ·exact((hr s' hs').setOther (a:=⟨G s,t,none⟩) (fun e2=>h.ne s' s hs' hs e e2) v').congr (fun i _=>by simp[e])
 ·refine ownsRow_setCell_below ?_ (h.lt s hs) _
  by_cases e:(s',i)=(s,t)
  ·simp only[e,if_true,List.length_append,List.length_cons,List.length_nil,List.map_append,List.map_cons,List.map_nil]
   exact ho
  ·simp only[e,if_false]
   exact(h.own s' i hs' hi).kept hg (h.dj s' i s t hs' hs hi ht e)
 ·by_cases e1:(s1,i)=(s,t)
  ·have e2:¬(s2,j)=(s,t):=fun e=>hij (e1.trans e.symm)
   simp only[e1,if_true,e2,if_false];rcases hat with q | q
   ·rw[q]
    exact h.dj s t s2 j hs h2 ht hj (fun e=>e2 e.symm)
   ·right
    rw[q];intro hh;rcases fresh s2 j h2 hj with f | f
    ·rw[f]at hh;cases hh
    ·exact f hh.symm
  ·simp only[e1,if_false]
   by_cases e2:(s2,j)=(s,t)
   ·simp only[e2,if_true]
    rcases hat with q | q
    ·rw[q];exact h.dj s1 i s t h1 hs hi ht e1
    ·rw[q];exact fresh s1 i h1 hi
   ·simp only[e2,if_false]
    exact h.dj s1 i s2 j h1 h2 hi hj hij
theorem MbS.other(h:MbS w base ns G m P U){b T q:Nat}{f:Nat->Value}(hb:w.rowIs b T q f)(hT:T≠2){s i:Nat}(hs:s<ns)(hi:i<m s):(U s i).ownBlock≠some b:=fun e=>by
 obtain⟨c,h1,_⟩:=hb;rcases(h.own s i hs hi).2 with⟨e1,_⟩ | ⟨g,cap,cur,e1,_,h2,_⟩
 ·rw[e1]at e;cases e
 ·rw[e1]at e
  injection e with e;have e:g=b:=e;subst e;rw[show w.heap[g]?=_ from h1]at h2;injection h2 with h2;injection h2 with _ h3;exact hT h3
theorem MbS.ints(h:MbS w base ns G m P U){s:Nat}(hs:s<ns){L:Nat}(hL:L<=G s):XM w L w.heap.size (some ⟨G s,0,none⟩) ((List.range (m s)).map (P s)):=fun i hi=>by
 simp only[List.length_map,List.length_range]at hi;obtain⟨a,c,hv,ha⟩:=Xl (h.own s i hs hi);refine⟨G s,0,rfl,⟨hL,(h.row s hs).lt⟩,a,c,?_,?_⟩
 ·simp only[List.getElem_map,List.getElem_range,Nat.zero_add]
  rw[(h.row s hs).cell hi,hv]
 ·simp only[List.getElem_map,List.getElem_range]
  exact ha.mono (by have:=h.lt s hs;omega) (Nat.le_refl _)
end
structure LvM(w3 wr:World)(ns:Nat)(G m:Nat->Nat)(P:Nat->Nat->List Int):Prop where
 os:wr.os=w3.os
 tape:wr.tape=w3.tape
 output:wr.output=w3.output
 size:w3.heap.size<=wr.heap.size
 fr:∀q,q<w3.heap.size->(∀s,s<ns->q≠G s)->wr.heap[q]?=w3.heap[q]?
 db:∃U,MbS wr w3.heap.size ns G m P U
section
variable {w3 wr wr' w8 : World} {ns : Nat} {G m : Nat -> Nat} {P P' : Nat -> Nat -> List Int}
theorem LvM.below(h:LvM w3 wr ns G m P)(k:Below wr.heap.size wr wr'):LvM w3 wr' ns G m P:=by
 obtain⟨U,hU⟩:=h.db;have:=h.size;exact⟨k.os.trans h.os,k.tape.trans h.tape,k.output.trans h.output,Nat.le_trans h.size k.size,fun q h1 h2=>(k.block q oM).trans (h.fr q h1 h2),U,hU.below k⟩
theorem LvM.congr(h:LvM w3 wr ns G m P)(e:∀s i,s<ns->i<m s->P s i=P' s i):LvM w3 wr ns G m P':=by
 obtain⟨U,hU⟩:=h.db;exact⟨h.os,h.tape,h.output,h.size,h.fr,U,hU.congr e⟩
theorem LvM.cell(h:LvM w3 wr ns G m P){b o:Nat}{v:Value}(h1:∀s,s<ns->b≠G s)(hc:w3.cell? ⟨b,o,none⟩=some v):wr.cell? ⟨b,o,none⟩=some v:=(Xc (h.fr b (World.block_lt_of_cell? w3 _ hc) h1)).trans hc
theorem LvM.push{U:Nat->Nat->Value}{s t:Nat}{ob:Obj}{x:Int}{v':Value}(h:LvM w3 wr ns G m P)(hU:MbS wr w3.heap.size ns G m P U)(hs:s<ns)(ht:t<m s)(hg:(wr.drew.alloc ob).grownBy w8 (U s t).ownBlock)(ho:w8.ownsRow w3.heap.size 2 1 v' ((P s t).length+1) ((P s t).map (Value.int .i64)++[.int .i64 x]))(hat:v'.ownBlock=(U s t).ownBlock\/v'.ownBlock=some (wr.heap.size+1)) :
 LvM w3 (w8.setCell ⟨G s,t,none⟩ v') ns G m (fun s' i=>if (s',i)=(s,t)then P s t++[x]else P s' i)/\w8.cell? ⟨G s,t,none⟩=some (U s t)/\w8.frozen? ⟨G s,t,none⟩=false/\(∀q,q<wr.heap.size->q≠G s->(U s t).ownBlock≠some q->w8.heap[q]?=wr.heap[q]?/\(w8.setCell ⟨G s,t,none⟩ v').heap[q]?=wr.heap[q]?)/\wr.heap.size<=(w8.setCell ⟨G s,t,none⟩ v').heap.size:=by
 have hsz:=h.size;have hgs:=hg.size;have has:(wr.drew.alloc ob).heap.size=wr.heap.size+1:=World.size_alloc _ _;have hal:∀k,k<wr.heap.size->(wr.drew.alloc ob).heap[k]?=wr.heap[k]?:=fun k hk=>Below.heap_alloc wr.drew _ _ hk
 have hU':MbS (wr.drew.alloc ob) w3.heap.size ns G m P U:=hU.below ⟨rfl,rfl,rfl,oM,hal⟩;have hst:=hU'.step hs ht x v' hg ho (by rw[has];exact hat);have hnu:∀k,k<w3.heap.size->(U s t).ownBlock≠some k:=fun k hk e=>by have:=((hU.own s t hs ht).lt k e).1;omega
 have hbk:∀k,k<wr.heap.size->(U s t).ownBlock≠some k->w8.heap[k]?=wr.heap[k]?:=fun k h1 h3=>(hg.block k oM (fun e=>h3 e.symm)).trans (hal k h1)
 have hG:=hU.lt s hs;have hGb:=hbk (G s) oM (hnu _ hG);refine⟨⟨hg.os.trans h.os,hg.tape.trans h.tape,hg.output.trans h.output,by rw[Xe];omega,fun q h1 h2=>?_,_,hst⟩,(Xc hGb).trans ((hU.row s hs).cell ht),(World.frozen?_of_block hGb).trans ((hU.row s hs).frozen t),fun q h1 h2 h3=>⟨hbk q h1 h3,(Below.heap_setCell _ _ _ _ h2).trans (hbk q h1 h3)⟩,by rw[Xe];omega⟩;exact(Below.heap_setCell _ _ _ _ (h2 s hs)).trans ((hbk q oM (hnu q h1)).trans (h.fr q h1 h2))
end
end Go.Proofs.YtlmgmkmomaileaaGreatDoor
