import Derived.Test.YthgikffcdgpgiaaGreatDoorMH2
import Derived.Test.YthgikffcdgpgiaaGreatDoorML3
import Derived.Deep.CutRange
namespace Go.Proofs.YthgikffcdgpgiaaGreatDoor
set_option maxHeartbeats 4000000
set_option maxRecDepth 100000
open Go.RowKit
theorem Tryz.infoL2S:(Tryz.prog.info? 59).map (fun i=>(i.zero,i.size,i.bytes))=some (some (.agg #[.slice none 0 0]),1,24):=kR
theorem Zib{V:Nat}{xs:List Xi}(ho:ZZ V xs)(b:Nat):(KJ xs b).length<=4000:=by
 unfold KJ;cases h:xs[b]? with
 | none=>exact Nat.zero_le _
 | some x=>simp only[YN,List.length_map];exact(ho.lens x (List.mem_of_getElem? h)).1
theorem ZbY(V:Nat)(a:Option Addr)(n c:Nat)(xs:List Xi)(L B:Nat)(w:World)(ha:Hid (Xl w L B a xs))(hx:Hid (n=xs.length))(hB:B<=w.heap.size)(ho:Hid (ZZ V xs)) :
 Calls Tryz.prog 21 #[.agg #[.int .i64 (V:Int),.slice a n c]] w fun e w'=>Zjq w w' n V xs e:=by
 have hn:n<=1000:=by have:=hx.out;have:=ho.okf.n2;omega
 have hV:=ho.vle;have hW0:Below w.heap.size w (w.alloc (.cells #[.int .i64 (V:Int),.slice a n c] 32)):=Xb (Below.refl _ _) _;have HLA:=Xa (Zb5 V a n c xs L B _ (Xa (ha.keep (hW0.mono hB))) hx (by have:=hW0.size;omega) ho);have hf0:(w.alloc (.cells #[.int .i64 (V:Int),.slice a n c] 32)).cell? ⟨w.heap.size,0,none⟩=some (.int .i64 (V:Int)):=by simp[go_sem]
 obtain⟨i0,hi0,hz0,hz1,hz2⟩:=X7 Tryz.infoL2S
 go_enter Tryz.func21,Tryz.ntmps21
 go_wp2_with fail
 refine HLA.mono ?_;rintro e w1 ⟨af,cf,rfl,hb1,hFr⟩;have HWW:=Xa (Xe hW0 hb1);have g0:=(hb1.cell (p:=⟨w.heap.size,0,none⟩) sP).trans hf0;have HFR:=Xa hFr;have hzw:w.heap.size<w1.heap.size:=World.block_lt_of_cell? w1 _ g0;clear hb1 hW0 hf0 HLA hFr;obtain⟨bf,of,eaf⟩:∃bf of,af=some ⟨bf,of,none⟩:=by
  obtain⟨b,o,_,e,_⟩:=HFR.out 0 (by have:=hx.out;have:=ho.okf.n1;omega);exact⟨b,o,e⟩
 subst eaf;have HFA:Hid (Yp w1 (some ⟨bf,of,none⟩) xs):=Xa HFR.at_;clear HFR
 go_wp2_with fail
 obtain⟨m,hm⟩:∃m:Nat->Nat,m=fun s=>(KJ xs s).length+1:=⟨_,rfl⟩
 have HMe:Hid (∀s,m s=(KJ xs s).length+1):=Xa (fun s=>by rw[hm]);have HM4:Hid (∀s,m s<=4001):=Xa (fun s=>by rw[hm];have:=Zib ho.out s;show(KJ xs s).length+1<=4001;omega);clear hm;have HRW:Hid (RwS w1 (w1.alloc (.cells #[] 59)) (.slice (some ⟨w1.heap.size,0,none⟩) 0 0) 0 m (fun _=>0)):=Xa (RwS.start w1 m);generalize w1.alloc (.cells #[] 59)=w2 at *
 go_loopw [4,5] (fun u i wr=>∃(b:Nat)(G:Nat->Nat),b<=n/\i=.int .i64 b/\Hid (RwS w1 wr u b m G)) (fun _ i _=>n-(intOf i).toNat)
 case atStart=>exact⟨0,fun _=>0,Nat.zero_le _,rfl,HRW⟩
 case round =>
  obtain⟨b,G,hb,rfl,HR⟩:=hrel;clear HRW;by_cases hlt:b<n
  ·have hbx:b<xs.length:=by have:=hx.out;omega
   obtain⟨a0,n0,a1,n1,a2,n2,a3,n3,a4,n4,a5,n5,c0,c1,c2,c3,c4,c5,hbf,_,_,_,_,x4,_,_,_,_,hn4,_,hfc⟩:=Yp.row ho.out HFA.out HR.low hbx;have HN4:Hid (n4+1=m b):=Xa (by rw[HMe.out,hfc.d.1]);have hmk:=Z5 (P:=Tryz.prog) 45 62 (.agg #[.slice none 0 0]) 1 24 Tryz.underlying45 Tryz.infoSetI' (n4+1) oM oM;rw[show((n4+1:Nat):Int)=(n4:Int)+1 by omega]at hmk;have hwl:IntKind.i64.wrap ((n4:Int)+1)=(n4:Int)+1:=by rw[IntKind.wrap_i64];omega
   have HO:=Xa HR.own;have hbfr:bf<wr.heap.size:=World.block_lt_of_cell? wr _ x4;clear hfc
   go_wp2_with (at_builtin;refine wpList_append_own_at _ rfl _ _ 50 rfl w1.heap.size 59 i0 (.agg #[.slice none 0 0]) 1 24 Tryz.underlying50 hi0 hz0 hz1 hz2 rfl vZ _ _ _ rfl ((HO.alloc _).alloc _) ⟨wr.heap.size+1,0,none⟩ 1 1 [.slice (some ⟨wr.heap.size,0,none⟩) (n4+1) (n4+1)] rfl rfl ?c1 ?c2 ?c3 ?c4 ?c5 ?_)
   case c1 =>
    have h:=XY (wr.alloc (.cells (madeCells #[.slice none 0 0] (n4+1)) 62)) (.slice (some ⟨wr.heap.size,0,none⟩) (n4+1) (n4+1)) 59;rw[World.size_alloc]at h;exact h
   case c2=>intro u hu;simp at hu;subst hu;rfl
   case c3=>unfold maxLen;omega
   case c4=>omega
   case c5=>simp;have:=HR.low.size;omega
   intro v8 w8 hown8 hg8 _ hat8;rw[HN4.out]at hown8 hg8;have HR8:=Xa (HR.push hg8 hown8);clear hown8 hg8 hat8
   go_wp2_with fail
   exact⟨⟨b+1,_,oM,gM,HR8⟩,by simp[intOf];omega⟩
  ·have hbn:n=b:=oM
   subst hbn;have hn0:0<n:=by have:=hx.out;have:=ho.okf.n1;omega
   obtain⟨gO,cO,rfl,_,_⟩:=Xp HR.own hn0;have HO3:Hid (∀s,s<n->wr.cell? ⟨gO,s,none⟩=some (.slice (some ⟨G s,0,none⟩) (m s) (m s))):=Xa (fun s hs=>by
    exact YP HR.own (j:=s) (by simp[hs]))
   have HOl:Hid (w1.heap.size<=gO/\gO<wr.heap.size):=Xa (HR.own.lt gO rfl);have HON:Hid (∀s,s<n->gO≠G s):=Xa (fun s hs e=>by
    obtain⟨cc,h1,_⟩:=(HR.row s hs).2;rcases HR.own.2 with⟨e1,_⟩ | ⟨g,cap,cur,e1,_,h2,_⟩
    ·cases e1
    ·injection e1 with e1
     injection e1 with e1;injection e1 with e1;subst e1;rw[e,show wr.heap[G s]?=_ from h1]at h2;injection h2 with h2;injection h2 with _ h3;exact absurd h3 vZ)
   have HL0:Hid (VG wr wr n G m (fun s i=>VA xs 0 s i)):=Xa ⟨rfl,rfl,rfl,Nat.le_refl _,fun _ _ _=>rfl,fun _ _=>.slice none 0 0,⟨fun s hs=>(HR.row s hs).2.lt,HR.ne,fun s hs=>(HR.row s hs).2,fun s i _ _=>by rw[ZeU];exact World.ownsRow_nil _ _ _ _,fun s i s' j _ _ _ _ _=>Or.inl rfl⟩⟩;have HGl:Hid (∀s,s<n->w1.heap.size<=G s):=Xa (fun s hs=>(HR.row s hs).1);have HB3:=Xa HR.low;have hz3:=HR.low.size;clear HR hb hlt
   go_wp2_with fail
   generalize wr=w3 at *;have HFW:Hid (∀wr P,VG w3 wr n G m P->Below w1.heap.size w1 wr):=Xa (fun wr P h=>⟨h.os.trans HB3.os,h.tape.trans HB3.tape,h.output.trans HB3.output,by have:=h.size;omega,fun q hq=>(h.fr q oM (fun s hs=>by have:=HGl.out s hs;omega)).trans (HB3.block q hq)⟩)
   go_loopw [6] (fun i wr=>∃v:Nat,v<=V/\i=.int .i64 v/\Hid (VG w3 wr n G m (fun s i=>VA xs v s i))) (fun i _=>V-(intOf i).toNat)
   case atStart=>exact⟨0,Nat.zero_le _,rfl,HL0⟩
   case round =>
    clear HL0;obtain⟨v,hv',rfl,HL⟩:=hrel;have k0:=((HFW.out _ _ HL.out).cell (p:=⟨w.heap.size,0,none⟩) hzw).trans g0;by_cases hlv:v<V
    ·have HBH:=Xa (ZcN V v n cf bf of xs wr (Xa (HFA.keep (HFW.out _ _ HL.out))) hx ho)
     go_wp2_with fail
     refine HBH.mono ?_;rintro e w4 ⟨gl,rfl,hb4,hgl,lv,hrl,hlb⟩;have HL4:Hid (VG w3 w4 n G m (pQ xs v 0 0)):=Xa ((HL.below hb4).congr (fun s i _ _=>(ZgW xs v s i).symm));have HGL:=Xa hrl;have HLB:=Xa hlb;have HGll:Hid (w3.heap.size<=gl):=Xa (Nat.le_trans HL.size hgl);clear hb4 hgl hrl hlb HL HBH k0
     go_wp2_with fail
     generalize wr=wo at *
     go_loopw [8] (fun i wr=>∃b:Nat,b<=n/\i=.int .i64 b/\Hid (VG w3 wr n G m (pQ xs v b 0))/\Hid (wr.rowIs gl 4 n (fun z=>.bool (lv z)))) (fun i _=>n-(intOf i).toNat)
     case atStart=>exact⟨0,Nat.zero_le _,rfl,HL4,HGL⟩
     case round =>
      clear HL4 HGL;obtain⟨b,hb,rfl,HLb,HGL⟩:=hrel;by_cases hlt:b<n
      ·have hbx:b<xs.length:=by have:=hx.out;omega
       have HBW:=Xa (HFW.out _ _ HLb.out);obtain⟨a0,n0,a1,n1,a2,n2,a3,n3,a4,n4,a5,n5,c0,c1,c2,c3,c4,c5,hbf,_,x1,_,x3,x4,x5,_,hn1',_,hn4,hn5,hfc⟩:=Yp.row ho.out HFA.out HBW.out hbx;have HFC:=Xa hfc;have HD4:Hid (n4=(KJ xs b).length):=Xa hfc.d.1;have HMb:Hid (m b=n4+1):=Xa (by rw[HMe.out,<-hfc.d.1]);have hmk:=run_make_row' (P:=Tryz.prog) 46 4 (.bool false) 1 Tryz.underlying46 Tryz.infoBo rfl .i64 .i64 (n4+1) oM oM;rw[show((n4+1:Nat):Int)=(n4:Int)+1 by omega]at hmk;have hwl:IntKind.i64.wrap ((n4:Int)+1)=(n4:Int)+1:=by rw[IntKind.wrap_i64];omega
       have hbfr:bf<wr.heap.size:=World.block_lt_of_cell? wr _ x4;clear hfc
       go_upto_region 16 with fail
       have HX0:Hid (InX wr (wr.alloc (.cells (madeCells #[.bool false] (n4+1)) 4)) gl n lv wr.heap.size (n4+1) (inF xs b v n4)):=Xa ⟨Xb (Below.refl _ _) _,HGL.lt,HGL.alloc _,Nat.le_refl _,KR (C:=Value.bool) (World.rowIs_made wr (.bool false) (n4+1) 4) (fun z hz=>(ZgZ hz).symm)⟩;generalize hw5:wr.alloc (.cells (madeCells #[.bool false] (n4+1)) 4)=w5 at *;clear hw5
       go_cut [11] from 44 to 176 (fun cc wx=>cc=.bool (nwB xs b v n4)/\Hid (InX wr wx gl n lv wr.heap.size (n4+1) (inF xs b v n4)))
       case first =>
        have HLO:=Xa (ZaX V v n cf bf of gl b xs lv w5 (Xa (HFA.keep (Xe HBW.out HX0.low))) hx ho hlt (Xa HX0.lr) HLB)
        go_wp2_with fail
        refine HLO.mono ?_;rintro e w6 ⟨s,rfl,hs',hb6⟩;have HX6:=Xa (HX0.below hb6);have HTOP:=Xa (ZgP hbx hs');rw[<-HD4.out]at HTOP;have y5:=(HX6.low.cell (p:=⟨bf,of+b*6+5,none⟩) hbfr).trans x5;have HHT:=Xa (XS a5 n5 c5 (v:Int) (rtL xs b) 0 w6.heap.size w6 (Xa ((HFC.u.2.keepS (fun q _ h2=>HX6.low.block q (by have:=HBW.size;omega))).mono (Nat.le_refl _) (by have:=HX6.low.size;have:=HBW.size;omega))) (Xa HFC.u.1) oM);clear hb6 hs' HX0 HLO;cases s with
        | true =>
         go_wp2_with fail
         go_meet;exact⟨by rw[HTOP.out,Bool.true_or],HX6⟩
        | false =>
         rw[Bool.false_or]at HTOP
         go_wp2_with fail
         refine HHT.mono ?_;rintro e w8 ⟨rfl,hw8⟩;have e8:=hw8.symm;subst e8;rw[<-HTOP.out]
         go_wp2_with fail
         go_meet;exact⟨rfl,HX6⟩
       case rest =>
        obtain⟨rfl,HX⟩:=hcut;clear HX0 x5 hmk;have HBb:Hid (Below w1.heap.size w1 wr):=HBW;have hzb:=HBW.size;generalize wr=wb at *
        go_wp2_with fail
        go_loopw [11,12] (fun nw i wx=>∃k:Nat,k<=n4/\i=.int .i64 k/\nw=.bool (nwB xs b v k)/\Hid (InX wb wx gl n lv wb.heap.size (n4+1) (inF xs b v k))) (fun _ i _=>(intOf i).toNat)
        case atStart=>exact⟨n4,Nat.le_refl _,rfl,rfl,HX⟩
        case round =>
         clear HX;obtain⟨k,hk,rfl,rfl,HX⟩:=hrel;cases k with
         | succ j =>
          have hj:j<(KJ xs b).length:=by have:=HD4.out;omega
          have hjr:j<(rdL xs b).length:=by rw[Ziy];exact hj
          have HPS:=Xa (Zfp (xs:=xs) (b:=b) (v:=v) hj);have HNW:=Xa (Zf7 (xs:=xs) (b:=b) (v:=v) hj hjr);obtain⟨bd,od,ed,hbd,cd⟩:=HFC.d.2 j hj;obtain⟨br,or,er,hbr,ar,cr,cr1,cr2⟩:=HFC.r.2 j hjr;have HRL:Hid (((rdL xs b)[j]).length<=1048576):=Xa (Nat.le_trans (Zfi xs b _ (List.getElem_mem hjr)) vZ);subst ed er;generalize (KJ xs b)[j]=d at *;generalize (rdL xs b)[j]=rj at *;have z4:=(HX.low.cell (p:=⟨bf,of+b*6+4,none⟩) hbfr).trans x4;have z3:=(HX.low.cell (p:=⟨bf,of+b*6+3,none⟩) hbfr).trans x3;have zd:=(XD HX.low oM).trans cd;have zr:=(XD HX.low oM).trans cr1;have HHR:=Xa (fun W (hW:Below wb.heap.size wb W)=>XS ar rj.length cr (v:Int) rj 0 W.heap.size W (Xa ((cr2.keep (fun q h1 h2=>hW.block q h1) hW.size).at_)) (Xa rfl) HRL.out);have ci:=HX.ir.cell (i:=j+1) oM;have fi:=HX.ir.frozen (j+1);have hw1:IntKind.i64.wrap ((j:Int)+1-1)=(j:Int):=by rw[IntKind.wrap_i64];omega
          have hw2:IntKind.i64.wrap (j:Int)=(j:Int):=by rw[IntKind.wrap_i64];omega
          have hjn:(j:Int)<(n4:Int):=oM;have hjn3:(j:Int)<(n3:Int):=by have:=HFC.r.1;omega
          have hji:(j:Int)+1<(n4:Int)+1:=oM;have hbdl:bd<wr.heap.size:=World.block_lt_of_cell? wr _ zd;have hbrl:br<wr.heap.size:=World.block_lt_of_cell? wr _ zr;have hbfl:bf<wr.heap.size:=World.block_lt_of_cell? wr _ z4;have hgi:bf≠wb.heap.size/\bd≠wb.heap.size/\br≠wb.heap.size:=oM;have hgi1:=hgi.1;have hgi2:=hgi.2.1;have hgi3:=hgi.2.2;clear cd cr1 cr2 hgi;have z3':∀q,(wr.setCell ⟨wb.heap.size,j+1,none⟩ q).cell? ⟨bf,of+b*6+3,none⟩=some (.slice (some ⟨br,or,none⟩) n3 c3):=fun q=>(World.cell?_setCell_far wr ⟨wb.heap.size,j+1,none⟩ ⟨bf,of+b*6+3,none⟩ q (Ne.symm hgi1)).trans z3
          have z4':∀q,(wr.setCell ⟨wb.heap.size,j+1,none⟩ q).cell? ⟨bf,of+b*6+4,none⟩=some (.slice (some ⟨bd,od,none⟩) n4 c4):=fun q=>(World.cell?_setCell_far wr ⟨wb.heap.size,j+1,none⟩ ⟨bf,of+b*6+4,none⟩ q (Ne.symm hgi1)).trans z4
          have zd':∀q,(wr.setCell ⟨wb.heap.size,j+1,none⟩ q).cell? ⟨bd,od+j,none⟩=some (.int .i64 d):=fun q=>(World.cell?_setCell_far wr ⟨wb.heap.size,j+1,none⟩ ⟨bd,od+j,none⟩ q (Ne.symm hgi2)).trans zd
          have zr':∀q,(wr.setCell ⟨wb.heap.size,j+1,none⟩ q).cell? ⟨br,or+j,none⟩=some (.slice ar rj.length cr):=fun q=>(World.cell?_setCell_far wr ⟨wb.heap.size,j+1,none⟩ ⟨br,or+j,none⟩ q (Ne.symm hgi3)).trans zr
          generalize nwB xs b v (j+1)=nw at *;have HEND:Hid (∀(q q':Bool),q=Vx xs b (j+1) v->q'=nwB xs b v j->(.bool q':Value)=.bool (nwB xs b v j)/\InX wb (wr.setCell ⟨wb.heap.size,j+1,none⟩ (.bool q)) gl n lv wb.heap.size (n4+1) (inF xs b v j)):=Xa (fun q q' h1 h2=>⟨by rw[h2],(HX.set (j+1) q).congr (fun z _=>ZeN h1 z)⟩);have HSET:Hid (∀q:Bool,Below wb.heap.size wb (wr.setCell ⟨wb.heap.size,j+1,none⟩ (.bool q))):=Xa (fun q=>(HX.set (j+1) q).low);by_cases hd:d=(v:Int)
          ·subst hd
           rw[decide_eq_true rfl]at HPS HNW;cases nw
           all_goals (
            go_wp2_with fail
            refine(HHR.out _ (HSET.out true)).mono ?_;rintro e w8 ⟨rfl,hw8⟩;subst hw8;generalize hasI rj (v:Int)=hr at *;cases hr with
            | true =>
             go_wp2_with fail
             obtain⟨e1,e2⟩:=HEND.out true true (by rw[HPS.out];rfl) (by rw[HNW.out];rfl);exact⟨⟨j,oM,gM,e1,Xa e2⟩,by simp[intOf]⟩
            | false =>
             go_wp2_with fail
             obtain⟨e1,e2⟩:=HEND.out true false (by rw[HPS.out];rfl) (by rw[HNW.out];rfl);exact⟨⟨j,oM,gM,e1,Xa e2⟩,by simp[intOf]⟩)
          ·rw[decide_eq_false hd]at HPS HNW
           have hd1:(d==(v:Int))=false:=by simpa using hd
           have hd2:(d != (v:Int))=true:=by simpa using hd
           cases nw with
           | true =>
            go_wp2_with fail
            refine(HHR.out _ (HSET.out true)).mono ?_;rintro e w8 ⟨rfl,hw8⟩;subst hw8;generalize hasI rj (v:Int)=hr at *;cases hr with
            | true =>
             go_wp2_with fail
             obtain⟨e1,e2⟩:=HEND.out true true (by rw[HPS.out];rfl) (by rw[HNW.out];rfl);exact⟨⟨j,oM,gM,e1,Xa e2⟩,by simp[intOf]⟩
            | false =>
             go_wp2_with fail
             obtain⟨e1,e2⟩:=HEND.out true true (by rw[HPS.out];rfl) (by rw[HNW.out];rfl);exact⟨⟨j,oM,gM,e1,Xa e2⟩,by simp[intOf]⟩
           | false =>
            go_wp2_with fail
            refine(HHR.out _ (HSET.out false)).mono ?_;rintro e w8 ⟨rfl,hw8⟩;subst hw8;generalize hasI rj (v:Int)=hr at *;cases hr with
            | true =>
             go_wp2_with fail
             obtain⟨e1,e2⟩:=HEND.out false true (by rw[HPS.out];rfl) (by rw[HNW.out];rfl);exact⟨⟨j,oM,gM,e1,Xa e2⟩,by simp[intOf]⟩
            | false =>
             go_wp2_with fail
             obtain⟨e1,e2⟩:=HEND.out false false (by rw[HPS.out];rfl) (by rw[HNW.out];rfl);exact⟨⟨j,oM,gM,e1,Xa e2⟩,by simp[intOf]⟩
         | zero =>
          clear x3 x4
          go_upto_region 22 with fail
          have HHP:=Xa (fun W (hW:Below wb.heap.size wb W)=>XS a1 n1 c1 (v:Int) (phL xs b) 0 W.heap.size W (Xa ((HFC.p.2.keepS (fun q _ h2=>hW.block q oM)).mono (Nat.le_refl _) (by have:=hW.size;omega))) (Xa HFC.p.1) oM);have HP0:Hid (Vx xs b 0 v=(lv b||hasI (phL xs b) (v:Int))):=Xa (by
           rw[Zgc,Zah];congr 1;rw[Bool.eq_iff_iff,Zhd hbx,HLB.out b hlt])
          go_cut [] from 44 to 176 (fun wx=>Hid (InX wb wx gl n lv wb.heap.size (n4+1) (fun z=>Vx xs b z v)))
          case first =>
           have kl:=HX.lr.cell hlt;have ci:=HX.ir.cell (i:=0) oM;have fi:=HX.ir.frozen 0;have z1:=(HX.low.cell (p:=⟨bf,of+b*6+1,none⟩) hbfr).trans x1;have HEND:Hid (∀q:Bool,q=Vx xs b 0 v->InX wb (wr.setCell ⟨wb.heap.size,0,none⟩ (.bool q)) gl n lv wb.heap.size (n4+1) (fun z=>Vx xs b z v)):=Xa (fun q h1=>(HX.set 0 q).congr (fun z _=>ZgU h1 z));have HCA:=Xa (HHP.out _ HX.low);generalize hasI (phL xs b) (v:Int)=ph at *;generalize lv b=lb at *;cases lb with
           | false =>
            go_wp2_with fail
            refine HCA.mono ?_;rintro e w8 ⟨rfl,hw8⟩;have e8:=hw8.symm;subst e8
            go_wp2_with fail
            go_meet;exact Xa (HEND.out _ (by rw[HP0.out];rfl))
           | true =>
            go_wp2_with fail
            refine HCA.mono ?_;rintro e w8 ⟨rfl,hw8⟩;have e8:=hw8.symm;subst e8;cases ph with
            | false =>
             go_wp2_with fail
             go_meet;exact Xa (HEND.out _ (by rw[HP0.out];rfl))
            | true =>
             go_wp2_with fail
             refine HCA.mono ?_;rintro e w9 ⟨rfl,hw9⟩;have e9:=hw9.symm;subst e9
             go_wp2_with fail
             go_meet;exact Xa (HEND.out _ (by rw[HP0.out];rfl))
          case rest =>
           have HXc:=hcut;have HLc:=Xa (HLb.below HXc.low);have HGc:=Xa HXc.lr;have HIc:=Xa HXc.ir;have hgi:wb.heap.size<wc.heap.size:=HXc.ir.lt;clear hcut HX HHP HP0 x1;have hzlb:=HLb.size
           go_wp2_with fail
           generalize wr=wp at *
           go_loopw [13] (fun i wx=>∃k:Nat,k<=n4+1/\i=.int .i64 k/\Hid (VG w3 wx n G m (pQ xs v b k))/\Hid (wx.rowIs gl 4 n (fun z=>.bool (lv z)))/\Hid (wx.rowIs wb.heap.size 4 (n4+1) (fun z=>.bool (Vx xs b z v)))) (fun i _=>n4+1-(intOf i).toNat)
           case atStart=>exact⟨0,Nat.zero_le _,rfl,HLc,HGc,HIc⟩
           case round =>
            clear HLc HGc HIc;obtain⟨k,hk,rfl,HLk,HGk,HIk⟩:=hrel;by_cases hkl:k<n4+1
            ·have ck:=HIk.cell hkl
             have hkl1:(k:Int)<=(n4:Int):=oM;have hkl2:(k:Int)<(n4:Int)+1:=oM;cases hps:Vx xs b k v with
             | false =>
              rw[hps]at ck;have HPS:=Xa hps;clear hps
              go_wp2_with fail
              exact⟨⟨k+1,oM,gM,Xa (HLk.congr (fun s i _ _=>ZiD HPS.out s i)),HGk,HIk⟩,by simp[intOf];omega⟩
             | true =>
              rw[hps]at ck;have HPS:=Xa hps;clear hps
              go_wp2_with fail
              refine ZiJ V v n cO gO b k n4 gl wb.heap.size xs lv G m w3 wr _ _ _ _ _ _ _ _ _ _ _ _ _ _ _ _ _ _ _ _ _ _ _ _ _ _ _ _ _ _ _ _ _ _ _ _ _ _ _ _ _ _ _ _ _ _ _ _ _ _ _ _ _ _ _ _ _ _ _ _ _ _ _ _ _ _ _ _ _ _ _ _ _ _ _ _ _ _ _ _ _ _ _ _ _ _ _ _ _ _ _ _ _ _ _ _ _ _ _ _ _ _ _ _ _ _ _ _ _ _ _ _ _ _ _ _ _ _ _ _ _ _ _ _ _ _ _ _ _ _ _ _ _ _ _ _ _ _ _ _ _ _ _ _ _ _ _ _ _ _ _ _ _ _ _ _ _ _ _ _ _ _ _ _ _ _ _ _ _ _ _ _ _ _ _ (Xa (fun _ _ _ _ _ h=>h)) hlv hV hlt hkl HMb HLk HGk HIk HPS (Xa (HO3.out b hlt)) HON HOl.2 HGll (Xa hzlb) (Xa ?_);intro d157 d158 d159 d160 d161 d162 d163 d164 d165 d166 d167 d168 d169 d170 d171 d172 d173 d174 d175 d176 w9 HD8 HGL8 HIL8;clear HLk HGk HIk ck
              go_wp2_with fail
              exact⟨⟨k+1,oM,gM,HD8,HGL8,HIL8⟩,by simp[intOf];omega⟩
            ·have hke:k=n4+1:=oM
             subst hke;have HLn:Hid (VG w3 wr n G m (pQ xs v (b+1) 0)):=Xa (HLk.congr (fun s i _ hi=>ZgO (m:=n4+1) (fun e=>by subst e;rw[<-HMb.out];exact hi)))
             go_wp2_with fail
             exact⟨⟨b+1,oM,gM,HLn,HGk⟩,by simp[intOf];omega⟩
      ·have HLV:Hid (VG w3 wr n G m (fun s i=>VA xs (v+1) s i)):=Xa (HLb.congr (fun s i hs _=>by rw[show b=n by omega];exact ZhV xs v n i hs))
       go_wp2_with fail
       exact⟨⟨v+1,oM,gM,HLV⟩,by simp[intOf];omega⟩
    ·have hve:v=V:=oM
     subst hve;have HLZ:Hid (∀s,s<n->wr.cell? ⟨gO,s,none⟩=some (.slice (some ⟨G s,0,none⟩) ((KJ xs s).length+1) ((KJ xs s).length+1))/\w.heap.size<=G s/\XF wr w.heap.size wr.heap.size (some ⟨G s,0,none⟩) ((List.range ((KJ xs s).length+1)).map (VA xs v s))):=Xa (fun s hs=>by
      obtain⟨U,hU⟩:=HL.db;have h1:=HL.cell (fun s hs=>HON.out s hs) (HO3.out s hs);have h2:=hU.ints hs (L:=w.heap.size) (by have:=HGl.out s hs;omega);rw[HMe.out]at h1 h2;exact⟨h1,by have:=HGl.out s hs;omega,h2⟩)
     have HLW:=Xa (HFW.out _ _ HL.out)
     go_wp2_with fail
     go_ret
     exact⟨gO,cO,G,rfl,HWW.trans (HLW.mono oM),by have:=HOl.1;omega,HLZ.out⟩
end Go.Proofs.YthgikffcdgpgiaaGreatDoor
