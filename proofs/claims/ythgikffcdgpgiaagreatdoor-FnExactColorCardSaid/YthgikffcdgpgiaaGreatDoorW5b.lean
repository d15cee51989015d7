import Derived.Test.YthgikffcdgpgiaaGreatDoorZP0
import Derived.Test.YthgikffcdgpgiaaGreatDoorMQ3
namespace Go.Proofs.YthgikffcdgpgiaaGreatDoor
set_option maxHeartbeats 8000000
set_option maxRecDepth 100000
open Go.RowKit Go.Shelf
theorem K6(op dst a b imm n most:Int)(w:World) :
 Calls Tryz.prog 74 #[.agg #[.int .i64 op,.int .i64 dst,.int .i64 a,.int .i64 b,.int .i64 imm],.int .i64 n,.int .i64 most] w fun e w'=>e=.returned (.bool (Ya n most ⟨op,dst,a,b,imm⟩))/\Below w.heap.size w w':=by
 by_cases h:1<=op/\op<=most
 ·obtain⟨h1,h2⟩:=h
  go_enter Tryz.func74,Tryz.ntmps74
  go_wp2_with fail
  refine(Zbs _ _).mono ?_;rintro e w1 ⟨rfl,rfl⟩
  go_wp2_with fail
  refine(Zh3 _ _).mono ?_;rintro e w1 ⟨rfl,rfl⟩
  go_wp2_with fail
  refine(Zh2 _ _).mono ?_;rintro e w1 ⟨rfl,rfl⟩;go_wp2
  all_goals
   go_ret
   refine⟨Xm ?_,Xb (Below.refl _ _) _⟩
   first | (simp[Ya,JI,TX, *];done) | (simp[Ya,JI,TX, *];omega) | (rw[Bool.eq_iff_iff];simp[Ya,JI,TX, *];omega)
 ·go_enter Tryz.func74,Tryz.ntmps74
  go_wp2
  all_goals
   go_ret
   refine⟨Xm ?_,Xb (Below.refl _ _) _⟩;symm;unfold Ya;by_cases h1:1<=op
   ·rw[decide_eq_false (p:=op<=most) oM];simp
   ·rw[decide_eq_false (p:=1<=op) h1];simp
section
attribute [local go_sem ↓] Go.wp_at_zero Go.wp_at_succ
def J6(v:Int)(n:Nat)(x:Xi):Bool:=x.instrs.all (Ya v 10)&&Zm v n x.term
theorem Zgv(F:Fn):(YL F&&Z1 F)=F.blocks.all (J6 F.values F.blocks.length):=by
 rw[show F.blocks.all (J6 F.values F.blocks.length)=F.blocks.all (fun x=>x.instrs.all (Ya F.values 10)&&Zm F.values F.blocks.length x.term) from rfl,Zdo];rfl
theorem Vz(v:Int)(a:Option Addr)(n c:Nat)(xs:List Xi)(L B:Nat)(w:World)(ha:Hid (Xl w L B a xs))(hx:Hid (n=xs.length))(hn:n<=1048576)(hbs:Hid (Xo xs<=1048576))(hB:B<=w.heap.size)
 (h:Hid (¬(0<=v/\v<=2000/\1<=n/\n<=1000/\Xo xs<=4000))) :
 Calls Tryz.prog 39 #[.agg #[.int .i64 v,.slice a n c]] w fun e w'=>e=.returned (.bool false)/\Below w.heap.size w w':=by
 by_cases hd:0<=v/\v<=2000/\1<=n/\n<=1000
 ·obtain⟨d0,d1,d2,d3⟩:=hd
  have hsz:4000<Xo xs:=by have:=h.out;omega
  go_enter Tryz.func39,Tryz.ntmps39
  go_wp2_with fail
  refine(U8 v a n c xs L B _ ?q1 hx hn hbs.out ?q2).mono ?_
  case q1=>exact ha.keep (Xb (Below.refl _ _) _ |>.mono hB)
  case q2=>simp;omega
  rintro e w1 ⟨rfl,hb1⟩;go_wp2
  go_ret
  exact⟨rfl,Xe (Xb (Below.refl _ _) _) hb1⟩
 ·have hd':v<0\/(0<=v/\2000<v)\/(0<=v/\v<=2000/\n<1)\/(0<=v/\v<=2000/\1<=n/\1000<n):=oM
  clear hd;rcases hd' with d | ⟨d,d1⟩ | ⟨d,d1,d2⟩ | ⟨d,d1,d2,d3⟩
  all_goals
   go_enter Tryz.func39,Tryz.ntmps39
   go_wp2
   go_ret
   exact⟨rfl,Xb (Below.refl _ _) _⟩
end
section
attribute [local go_sem ↓] Go.wp_at_zero Go.wp_at_succ
theorem U7(m:Nat)(a:Option Addr)(n c:Nat)(xs:List Xi)(L B:Nat)(w:World)(R:Bool)(ha:Hid (Xl w L B a xs))(hx:Hid (n=xs.length))(hs:Hid (xs.length+Xk xs<=1048576))(hB:B<=w.heap.size)
 (d1:(m:Int)<=2000) (d2:1<=n) (d3:n<=1000) (hsz:Xo xs<=4000) (hR:Hid (R=(xs.all (J6 m n)&&Ko ⟨m,xs⟩ && Kk ⟨m,xs⟩))) :
 Calls Tryz.prog 39 #[.agg #[.int .i64 m,.slice a n c]] w fun e w'=>e=.returned (.bool R)/\Below w.heap.size w w':=by
 have hbs:Hid (Xo xs<=1048576):=by show _<=_;omega
 have hlen:=Xa (KP hs.out)
 go_enter Tryz.func39,Tryz.ntmps39
 go_wp2_with fail
 refine(U8 m a n c xs L B _ ?q1 hx oM hbs.out ?q2).mono ?_
 case q1=>exact ha.keep (Xb (Below.refl _ _) _ |>.mono hB)
 case q2=>simp;omega
 rintro e w1 ⟨rfl,hb1⟩;obtain⟨hc1,hf1⟩:=bcell hb1;have k0:w1.cell? ⟨w.heap.size,0,none⟩=some (.int .i64 m):=by rw[hc1 _ _ sP];simp
 have k1:w1.cell? ⟨w.heap.size,1,none⟩=some (.slice a n c):=by rw[hc1 _ _ sP];simp
 have B1:=Xe (Xb (Below.refl w.heap.size w) _) hb1;have hz1:=hb1.size;simp at hz1;have HB1:=Xa B1;have HA:=Xa (ha.keep (B1.mono hB));clear hc1 hf1 hb1 B1 ha;go_wp2
 go_loopw [4] (fun i wr=>∃k:Nat,k<=n/\i=.int .i64 k/\Below w1.heap.size w1 wr/\Hid ((xs.take k).all (J6 m n)=true)) (fun i _=>n-(intOf i).toNat)
 case atStart=>exact⟨0,Nat.zero_le _,rfl,Below.refl _ _,rfl⟩
 case round =>
  obtain⟨k,hk,rfl,hw,hall⟩:=hrel;by_cases hlt:k<n
  ·have hkx:k<xs.length:=by have:=hx.out;omega
   obtain⟨b,o,rfl,⟨_,hbB⟩,hc⟩:=HA.out k hkx;obtain⟨pa',pc',ia,ic,d0,f1,⟨f2,f3,f4,f5⟩,_,hi⟩:=hc;have e0:=(XD hw oM).trans d0;have e1:=(XD hw oM).trans f1;have e2:=(XD hw oM).trans f2;have e3:=(XD hw oM).trans f3;have e4:=(XD hw oM).trans f4;have e5:=(XD hw oM).trans f5;have k0':=(XD hw oM).trans k0;have k1':=(XD hw oM).trans k1;have hil:=(hlen.out _ (List.getElem_mem hkx)).2.1;have hno:=Xa (fun h=>ZA (p:=J6 m n) (xs:=xs) (k:=k) hkx h);have hyes:=Xa (fun h=>XM (p:=J6 m n) hkx hall.out h);have HI:=Xa hi;have hwz:=hw.size;clear hi d0 f1 f2 f3 f4 f5;generalize xs[k]=X at *;have hBK:Hid (J6 m n X=(X.instrs.all (Ya m 10)&&(YI m 1 n ⟨X.term.kind,X.term.a,X.term.to,X.term.els⟩ && !(X.term.kind==2&&X.term.to==X.term.els)))):=rfl;go_wp2;have hb2:=Xb hw (.cells #[.slice pa' X.phis.length pc',.slice ia X.instrs.length ic,.int .i64 X.term.kind,.int .i64 X.term.a,.int .i64 X.term.to,.int .i64 X.term.els] 57);have m1:(wr.alloc (.cells #[.slice pa' X.phis.length pc',.slice ia X.instrs.length ic,.int .i64 X.term.kind,.int .i64 X.term.a,.int .i64 X.term.to,.int .i64 X.term.els] 57)).cell? ⟨wr.heap.size,1,none⟩=some (.slice ia X.instrs.length ic):=sP;have m2:(wr.alloc (.cells #[.slice pa' X.phis.length pc',.slice ia X.instrs.length ic,.int .i64 X.term.kind,.int .i64 X.term.a,.int .i64 X.term.to,.int .i64 X.term.els] 57)).cell? ⟨wr.heap.size,2,none⟩=some (.int .i64 X.term.kind):=sP;have m3:(wr.alloc (.cells #[.slice pa' X.phis.length pc',.slice ia X.instrs.length ic,.int .i64 X.term.kind,.int .i64 X.term.a,.int .i64 X.term.to,.int .i64 X.term.els] 57)).cell? ⟨wr.heap.size,3,none⟩=some (.int .i64 X.term.a):=sP;have m4:(wr.alloc (.cells #[.slice pa' X.phis.length pc',.slice ia X.instrs.length ic,.int .i64 X.term.kind,.int .i64 X.term.a,.int .i64 X.term.to,.int .i64 X.term.els] 57)).cell? ⟨wr.heap.size,4,none⟩=some (.int .i64 X.term.to):=sP;have m5:(wr.alloc (.cells #[.slice pa' X.phis.length pc',.slice ia X.instrs.length ic,.int .i64 X.term.kind,.int .i64 X.term.a,.int .i64 X.term.to,.int .i64 X.term.els] 57)).cell? ⟨wr.heap.size,5,none⟩=some (.int .i64 X.term.els):=sP;have hz2:wr.heap.size<(wr.alloc (.cells #[.slice pa' X.phis.length pc',.slice ia X.instrs.length ic,.int .i64 X.term.kind,.int .i64 X.term.a,.int .i64 X.term.to,.int .i64 X.term.els] 57)).heap.size:=sP;generalize wr.alloc (.cells #[.slice pa' X.phis.length pc',.slice ia X.instrs.length ic,.int .i64 X.term.kind,.int .i64 X.term.a,.int .i64 X.term.to,.int .i64 X.term.els] 57)=W2 at *;have HW2:=Xa hb2;have hz3:=hb2.size;generalize wr.heap.size=M at *;clear hb2 e0 e1 e2 e3 e4 e5 k0' k1' hw
   go_loopw [6] (fun i wi=>∃j:Nat,j<=X.instrs.length/\i=.int .i64 j/\Below W2.heap.size W2 wi/\Hid ((X.instrs.take j).all (Ya m 10)=true)) (fun i _=>X.instrs.length-(intOf i).toNat)
   case atStart=>exact⟨0,Nat.zero_le _,rfl,Below.refl _ _,rfl⟩
   case round =>
    obtain⟨j,hj,rfl,hwi,halli⟩:=hrel;have hbi:=Xe HW2.out hwi;have r0:=(XD hbi oM).trans k0;have n1:=(XD hwi oM).trans m1;have hwiz:=hwi.size;by_cases hjt:j<X.instrs.length
    ·obtain⟨b',o',rfl,⟨_,hbB'⟩,hc'⟩:=HI.out j hjt
     obtain⟨g0,g1,g2,g3,g4⟩:=hc'.keep hbi oM;have hno2:=Xa (fun h=>ZA (p:=Ya m 10) (xs:=X.instrs) (k:=j) hjt h);have hyes2:=Xa (fun h=>XM (p:=Ya m 10) hjt halli.out h);have hj0:(0:Int)<=(j:Int):=oM;have hj1:(j:Int)<(X.instrs.length:Int):=oM;clear hc' m1 m2 m3 m4 m5 k0 k1;generalize X.instrs[j]=P at *;cases hr:Ya m 10 ⟨P.op,P.dst,P.a,P.b,P.imm⟩
     ·have HRR:=Xa hr
      go_wp2
      go_region_with (go_at_call 74;refine(K6 _ _ _ _ _ _ _ _).mono ?_;rintro e w2 ⟨rfl,hb2⟩;rw[Xq HRR])
      all_goals
       go_wp2
       go_ret
       exact⟨Xm (by rw[hR.out,Xq hno (by rw[hBK.out,Xq hno2 HRR.out];rfl)];rfl),Xe HB1.out (Xe hbi.drew hb2)⟩
     ·have HRR:=Xa hr
      go_wp2
      go_region_with (go_at_call 74;refine(K6 _ _ _ _ _ _ _ _).mono ?_;rintro e w2 ⟨rfl,hb2⟩;rw[Xq HRR])
      all_goals
       go_wp2;exact⟨⟨j+1,oM,gM,Xe hwi.drew hb2,Xq hyes2 HRR.out⟩,by simp[intOf];omega⟩
    ·have hIA:=Xa (Yi (p:=Ya m 10) (xs:=X.instrs) (k:=j) oM halli.out)
     have n2:=(XD hwi oM).trans m2;have n3:=(XD hwi oM).trans m3;have n4:=(XD hwi oM).trans m4;have n5:=(XD hwi oM).trans m5;clear m1 m2 m3 m4 m5 k0 k1;cases hr:YI m 1 n ⟨X.term.kind,X.term.a,X.term.to,X.term.els⟩
     ·have HRR:=Xa hr
      clear hr
      go_wp2_with (go_at_call 75;refine(Jy _ _ _ _ _ _ _ _).mono ?_;rintro e w2 ⟨rfl,hb2⟩;rw[Xq HRR])
      go_ret
      exact⟨Xm (by rw[hR.out,Xq hno (by rw[hBK.out,HRR.out];simp)];rfl),Xe HB1.out (Xe hbi hb2)⟩
     ·have HRR:=Xa hr
      clear hr;by_cases hq:X.term.kind=2/\X.term.to=X.term.els
      ·have q1:(X.term.kind==2)=true:=by simp[hq.1]
       have q2:(X.term.to==X.term.els)=true:=by simp[hq.2]
       clear hq
       go_wp2_with (go_at_call 75;refine(Jy _ _ _ _ _ _ _ _).mono ?_;rintro e w2 ⟨rfl,hb2⟩;rw[Xq HRR];have p2:=(hb2.cell (p:=⟨M,2,none⟩) (by show M<_;omega)).trans n2;have p4:=(hb2.cell (p:=⟨M,4,none⟩) (by show M<_;omega)).trans n4;have p5:=(XD hb2 oM).trans n5)
       go_ret
       exact⟨Xm (by rw[hR.out,Xq hno (by rw[hBK.out,q1,q2];simp)];rfl),Xe HB1.out (Xe hbi hb2)⟩
      ·have hq':(X.term.kind==2)=false\/((X.term.kind==2)=true/\(X.term.to==X.term.els)=false):=by simp only[beq_eq_false_iff_ne,beq_iff_eq];omega
       clear hq;rcases hq' with q1 | ⟨q1,q2⟩
       all_goals
        go_wp2_with (go_at_call 75;refine(Jy _ _ _ _ _ _ _ _).mono ?_;rintro e w2 ⟨rfl,hb2⟩;rw[Xq HRR];have p2:=(hb2.cell (p:=⟨M,2,none⟩) (by show M<_;omega)).trans n2;have p4:=(hb2.cell (p:=⟨M,4,none⟩) (by show M<_;omega)).trans n4;have p5:=(XD hb2 oM).trans n5)
        exact⟨⟨k+1,oM,gM,Xe hbi hb2,Xq hyes (by rw[hBK.out,HRR.out,hIA.out];first | (rw[q1];rfl) | (rw[q1,q2];rfl))⟩,by simp[intOf];omega⟩
  ·have hBL:=Xa (Yi (p:=J6 m n) (xs:=xs) (k:=k) (by have:=hx.out;omega) hall.out)
   clear hall;go_wp2
   go_loopw [7] (fun i wr=>∃k:Nat,k<=n/\i=.int .i64 k/\Below w1.heap.size w1 wr/\Hid (∀j (h:j<xs.length),j<k->xs[j].phis.all (Zw m (predsFrom xs 0 (j:Int)).length)=true)) (fun i _=>n-(intOf i).toNat)
   case atStart=>exact⟨0,Nat.zero_le _,rfl,hw,fun j _ h=>absurd h oM⟩
   case round =>
    clear hw hlt hk;obtain⟨k,hk,rfl,hw,hall⟩:=hrel;have k0':=(XD hw oM).trans k0;have k1':=(XD hw oM).trans k1;have hwz:=hw.size;by_cases hlt:k<n
    ·have hkx:k<xs.length:=by have:=hx.out;omega
     obtain⟨b,o,rfl,⟨_,hbB⟩,hc⟩:=HA.out k hkx;obtain⟨pa',pc',ia,ic,d0,_,_,hp,_⟩:=hc;obtain⟨hl1,_,hl2⟩:=hlen.out _ (List.getElem_mem hkx);have HL2:=Xa hl2;have hno:Hid (xs[k].phis.all (Zw m (predsFrom xs 0 (k:Int)).length)=false->Ko ⟨m,xs⟩=false):=fun h=>TW Zw ⟨m,xs⟩ (k:=k) hkx h
     have hyes:Hid (xs[k].phis.all (Zw m (predsFrom xs 0 (k:Int)).length)=true->∀j (h:j<xs.length),j<k+1->xs[j].phis.all (Zw m (predsFrom xs 0 (j:Int)).length)=true) :=
      fun h j hj hjk=>if e:j=k then by subst e;exact h else hall.out j hj oM
     have HP:=Xa hp;have D0:=Xa d0;have hAw:=Xa (HA.keep (hw.mono oM));have hnl:(predsFrom xs 0 (k:Int)).length<=1048576:=by have:=Yc (k:Int) xs 0;have:=hx.out;omega
     clear hp d0 hl2
     go_wp2_with fail
     refine(JW m _ n c k xs L B _ hAw hx oM oM).mono ?_;rintro e w2 ⟨a2,c2,rfl,hb2,hi2⟩;have hbw:=Xe hw hb2;have hbz:=hbw.size;clear hi2 hb2 hw k0' k1' hAw;generalize xs[k]=X at *;generalize predsFrom xs 0 (k:Int)=ps at *;go_wp2
     go_loopw [9] (fun i wi=>∃j:Nat,j<=X.phis.length/\i=.int .i64 j/\Below w1.heap.size w1 wi/\Hid ((X.phis.take j).all (Zw m ps.length)=true)) (fun i _=>X.phis.length-(intOf i).toNat)
     case atStart=>exact⟨0,Nat.zero_le _,rfl,hbw,rfl⟩
     case round =>
      clear hbw hbz;obtain⟨j,hj,rfl,hwi,halli⟩:=hrel;have x0:=(XD hwi oM).trans k0;have x1:=(XD hwi oM).trans k1;have x2:=(XD hwi oM).trans D0.out;have hwiz:=hwi.size;by_cases hjt:j<X.phis.length
      ·obtain⟨b',o',rfl,⟨_,hbB'⟩,aa,cc,g0,g1,hi⟩:=HP.out j hjt
       have e6:=(XD hwi oM).trans g0;have e7:=(XD hwi oM).trans g1;have hal:=HL2.out _ (List.getElem_mem hjt);have hno2:=Xa (fun h=>Xq hno (ZA (p:=Zw m ps.length) (xs:=X.phis) (k:=j) hjt h));have hyes2:=Xa (fun h=>XM (p:=Zw m ps.length) hjt halli.out h);have HIA:=Xa hi;have hw1z:w.heap.size<wr.heap.size:=oM;clear g0 g1 hi;generalize X.phis[j]=P at *;have hPS:Hid (Zw m ps.length P=(decide (1<=P.args.length)&&decide (P.args.length=ps.length)&&P.args.all (JH 0 m))):=rfl;by_cases h0:P.args.length=0
       ·have h0':(P.args.length:Int)<1:=oM
        have H0:=Xa h0;clear h0;go_wp2
        go_ret
        exact⟨Xm (by rw[hR.out,Xq hno2 (by rw[hPS.out,H0.out];rfl)];simp),Xe HB1.out (Xb hwi _)⟩
       ·have h0':(1:Int)<=(P.args.length:Int):=oM
        have H0:=Xa h0;clear h0;by_cases h1:P.args.length=ps.length
        ·have h1':((P.args.length:Int) != (ps.length:Int))=false:=by simp[h1]
         have H1:=Xa h1;clear h1;go_wp2;have hb9:=Xb hwi (.cells #[.int .i64 P.dst,.slice aa P.args.length cc] 64);have z1:(wr.alloc (.cells #[.int .i64 P.dst,.slice aa P.args.length cc] 64)).cell? ⟨wr.heap.size,1,none⟩=some (.slice aa P.args.length cc):=sP;have z2:wr.heap.size<(wr.alloc (.cells #[.int .i64 P.dst,.slice aa P.args.length cc] 64)).heap.size:=sP;generalize wr.alloc (.cells #[.int .i64 P.dst,.slice aa P.args.length cc] 64)=w9 at *;generalize wr.heap.size=M at *;have hz9:=hb9.size;have HB9:=Xa hb9;clear x0 x1 x2 e6 e7 h0' h1' hb9
         go_loopw [11] (fun i wi=>∃q:Nat,q<=P.args.length/\i=.int .i64 q/\Below w9.heap.size w9 wi/\Hid ((P.args.take q).all (JH 0 m)=true)) (fun i _=>P.args.length-(intOf i).toNat)
         case atStart=>exact⟨0,Nat.zero_le _,rfl,Below.refl _ _,rfl⟩
         case round =>
          obtain⟨q,hq,rfl,hwq,hallq⟩:=hrel;have y1:=(XD hwq oM).trans z1;have hbq:=Xe HB9.out hwq;have y0:=(XD hbq oM).trans k0;by_cases hqt:q<P.args.length
          ·obtain⟨b2,o2,rfl,⟨_,hb2⟩,hc2⟩:=HIA.out q hqt
           have r1:=(XD hbq oM).trans hc2;have hno3:=Xa (fun h=>ZA (p:=JH 0 m) (xs:=P.args) (k:=q) hqt h);have hyes3:=Xa (fun h=>XM (p:=JH 0 m) hqt hallq.out h);have hq0:(0:Int)<=(q:Int):=oM;have hq1:(q:Int)<(P.args.length:Int):=oM;clear hc2 z1 k0 k1;generalize P.args[q]=A at *;by_cases hA0:A<0
           ·have hA1:decide (A<0)=true:=by simpa using hA0
            go_wp2
            go_quiet (fail)
            go_wp2
            go_ret
            exact⟨Xm (by rw[hR.out,Xq hno2 (by rw[hPS.out,Xq hno3 (by unfold JH;rw[decide_eq_false (p:=0<=A) oM];rfl)];simp)];simp),Xe HB1.out (below_drewN hbq _)⟩
           ·have hA1:decide (A<0)=false:=by simpa using hA0
            have hA2:0<=A:=oM;clear hA0;by_cases hA3:(m:Int)<=A
            ·go_wp2
             go_quiet (fail)
             go_wp2
             go_ret
             exact⟨Xm (by rw[hR.out,Xq hno2 (by rw[hPS.out,Xq hno3 (by unfold JH;rw[decide_eq_false (p:=A<m) oM];simp)];simp)];simp),Xe HB1.out (below_drewN hbq _)⟩
            ·have hA4:A<(m:Int):=oM
             clear hA3;go_wp2
             go_quiet (fail)
             go_wp2;exact⟨⟨q+1,oM,gM,below_drewN hwq _,Xq hyes3 (by unfold JH;rw[decide_eq_true hA2,decide_eq_true hA4];rfl)⟩,by simp[intOf];omega⟩
          ·go_wp2
           exact⟨⟨j+1,oM,gM,hbq,Xq hyes2 (by
            have h1:=H1.out;have h0:=H0.out;rw[hPS.out,decide_eq_true h1,decide_eq_true (p:=1<=P.args.length) oM,Yi (xs:=P.args) (k:=q) oM hallq.out];rfl)⟩,by simp[intOf];omega⟩
        ·have h1':((P.args.length:Int) != (ps.length:Int))=true:=by rw[bne_iff_ne];omega
         have H1:=Xa h1;clear h1;go_wp2
         go_ret
         exact⟨Xm (by rw[hR.out,Xq hno2 (by rw[hPS.out,decide_eq_false H1.out];simp)];simp),Xe HB1.out (Xb hwi _)⟩
      ·go_wp2
       exact⟨⟨k+1,oM,gM,hwi,Xq hyes (Yi (xs:=X.phis) (k:=j) oM halli.out)⟩,by simp[intOf];omega⟩
    ·have hPH:Hid (Ko ⟨m,xs⟩=true):=(YG Zw ⟨m,xs⟩ xs 0).2 (fun j hj=>by rw[Nat.zero_add];exact hall.out j hj (by have:=hx.out;omega))
     have hAw:=Xa (HA.keep (hw.mono oM));have hCV:Hid (Kk ⟨m,xs⟩=(decide (((blksDefs xs).length:Int)=m)&&(List.range m).all fun v=>hasI (blksDefs xs) (v:Int))):=rfl;have hdl:(blksDefs xs).length<=1048576:=by have:=Jn xs;have:=hs.out;omega
     clear hall
     go_wp2_with fail
     refine(Zcv m _ n c xs L B _ hAw hx oM (show Xk xs<=1048576 by have:=hs.out;omega) oM).mono ?_;rintro e w2 ⟨a2,c2,rfl,hb2,hi2⟩;have hbw:=Xe hw hb2;have y0:=(XD hbw oM).trans k0;have HI2:=Xa hi2;have HBW:=Xa hbw;clear hi2 hb2 hw k0' k1' hAw hbw k0 k1;generalize blksDefs xs=D at *;by_cases hD:(D.length:Int)=m
     ·have hD':((D.length:Int) != (m:Int))=false:=by simp[hD]
      have HD:=Xa hD;clear hD;go_wp2;clear hD'
      go_loop [13] (fun i=>∃q:Nat,q<=m/\i=.int .i64 q/\Hid (∀p:Nat,p<q->hasI D (p:Int)=true)) (fun i=>m-(intOf i).toNat)
      case atStart=>exact⟨0,Nat.zero_le _,rfl,fun p h=>absurd h oM⟩
      case round =>
       obtain⟨q,hq,rfl,hallq⟩:=hrel;by_cases hqt:q<m
       ·cases hr:hasI D (q:Int)
        ·have HRR:=Xa hr
         go_wp2_with (go_at_call 43;refine(XS _ _ _ _ D _ _ _ HI2 rfl hdl).mono ?_;rintro e w3 ⟨rfl,hw3⟩;rw[hw3];clear hw3 w3)
         go_ret
         exact⟨Xm (by
          have hf:((List.range m).all fun v=>hasI D (v:Int))=false:=by
           rw[List.all_eq_false];exact⟨q,by simpa using hqt,by simp[HRR.out]⟩
          rw[hR.out,hCV.out,hf];simp),Xe HB1.out HBW.out⟩
        ·have HRR:=Xa hr
         go_wp2_with (go_at_call 43;refine(XS _ _ _ _ D _ _ _ HI2 rfl hdl).mono ?_;rintro e w3 ⟨rfl,hw3⟩;rw[hw3];clear hw3 w3)
         go_round
         case rel=>exact⟨q+1,oM,gM,fun p hp=>if e:p=q then by subst e;exact HRR.out else hallq.out p oM⟩
         case measure=>simp[intOf];omega
       ·go_wp2
        go_ret
        exact⟨Xm (by
         have hf:((List.range m).all fun v=>hasI D (v:Int))=true:=by
          rw[List.all_eq_true];intro p hp;exact hallq.out p (by simp at hp;omega)
         rw[hR.out,hCV.out,hf,hBL.out,hPH.out,decide_eq_true HD.out];rfl),Xe HB1.out HBW.out⟩
     ·have hD':((D.length:Int) != (m:Int))=true:=by rw[bne_iff_ne];exact hD
      have HD:=Xa hD;clear hD;go_wp2
      go_ret
      exact⟨Xm (by rw[hR.out,hCV.out,decide_eq_false HD.out];simp),Xe HB1.out HBW.out⟩
theorem JQ(v:Int)(a:Option Addr)(n c:Nat)(xs:List Xi)(L B:Nat)(w:World)(ha:Hid (Xl w L B a xs))(hx:Hid (n=xs.length))(hs:Hid (xs.length+Xk xs<=1048576))(hB:B<=w.heap.size) :
 Calls Tryz.prog 39 #[.agg #[.int .i64 v,.slice a n c]] w fun e w'=>e=.returned (.bool (U9 ⟨v,xs⟩))/\Below w.heap.size w w':=by
 have hV:U9 ⟨v,xs⟩=(Yb ⟨v,xs⟩ && xs.all (J6 v xs.length)&&Ko ⟨v,xs⟩ && Kk ⟨v,xs⟩):=by
  unfold U9;rw[Zgv]
 have hn:=hx.out;have hbs:Xo xs<=1048576:=by rw[KX];exact hs.out
 have hs2:=hs.out;by_cases hd:0<=v/\v<=2000/\1<=n/\n<=1000/\Xo xs<=4000
 ·obtain⟨d0,d1,d2,d3,d4⟩:=hd
  have hS:Yb ⟨v,xs⟩=true:=Ut d0 d1 (by show 1<=xs.length;omega) (by show xs.length<=1000;omega) d4;obtain⟨m,rfl⟩:=Int.eq_ofNat_of_zero_le d0;rw[hV,hS];exact U7 m a n c xs L B w _ ha hx hs hB d1 d2 d3 d4 (by show _=_;rw[<-hn];rfl)
 ·have hS:Yb ⟨v,xs⟩=false:=by
   by_cases hb:Xo xs<=4000
   ·exact Uc (F:=⟨v,xs⟩) (by show ¬(0<=v/\v<=2000/\1<=xs.length/\xs.length<=1000);omega)
   ·exact KI (F:=⟨v,xs⟩) (by show 4000<Xo xs;omega)
  rw[hV,hS];exact Vz v a n c xs L B w ha hx oM hbs hB hd
end
section
def sdW(p:Nat)(s:Sd):List Nat:=lsN s.W p
theorem Zy.far{n₀:Nat}{Ms:Nat->Prop}{u A V:World}(h:Zy n₀ Ms u A)(hn:n₀<=u.heap.size)(k:∀q,q<u.heap.size->V.heap[q]?=A.heap[q]?)(hs:A.heap.size<=V.heap.size):Zy n₀ Ms u V :=
 ⟨Nat.le_trans h.size hs,fun q h1 h2=>(k q oM).trans (h.low q h1 h2),fun q o h1 h2 h3=>(k q (Array.getElem?_eq_some_iff.1 h2).1).trans (h.cells q o h1 h2 h3)⟩
theorem ZO{B:Nat}{u A V:World}(h:KeepsFrom B u A)(k:∀q,q<u.heap.size->V.heap[q]?=A.heap[q]?)(hs:A.heap.size<=V.heap.size):KeepsFrom B u V :=
 ⟨Nat.le_trans h.size hs,fun q o h1 h2 h3=>(k q (Array.getElem?_eq_some_iff.1 h2).1).trans (h.same q o h1 h2 h3)⟩
structure AsI(W u:World)(n₀:Nat)(Ms:Nat->Prop)(J:Nat->List Sd->World->Prop)(s0:List Sd)(z:Nat)(ss:List Sd)(V:World):Prop where
 j:J z (s0++ss) V
 kp:Zy n₀ Ms u V
 kf:KeepsFrom W.heap.size u V
structure AsX(W u:World)(Jx:List Sd->World->Prop)(s0 ss:List Sd)(V:World):Prop where
 j:Jx (s0++ss) V
 kf:KeepsFrom W.heap.size u V
section
variable {W u : World} {n₀ : Nat} {Ms : Nat -> Prop} {J : Nat -> List Sd -> World -> Prop} {Jx : List Sd -> World -> Prop} {s0 : List Sd}
theorem AsI.own(hJ:∀z,OwnFrom W.heap.size (J z))(hW:W.heap.size<=u.heap.size)(hn:n₀<=u.heap.size)(z:Nat):OwnFrom u.heap.size (AsI W u n₀ Ms J s0 z):=fun ss A V row h k q=>by
 have hu:=h.kp.size;have hb:∀i,i<u.heap.size->V.heap[i]?=A.heap[i]?:=fun i hi=>k.block i oM (fun e=>by have:=(q i e.symm).1;omega)
 exact⟨hJ z _ A V row h.j k (fun r e=>⟨by have:=(q r e).1;omega,(q r e).2⟩),h.kp.far hn hb k.size,ZO h.kf hb k.size⟩
theorem AsX.own(hJ:OwnFrom W.heap.size Jx)(hW:W.heap.size<=u.heap.size):OwnFrom u.heap.size (AsX W u Jx s0):=fun ss A V row h k q=>by
 have hu:=h.kf.size;have hb:∀i,i<u.heap.size->V.heap[i]?=A.heap[i]?:=fun i hi=>k.block i oM (fun e=>by have:=(q i e.symm).1;omega)
 exact⟨hJ _ A V row h.j k (fun r e=>⟨by have:=(q r e).1;omega,(q r e).2⟩),ZO h.kf hb k.size⟩
theorem AsI.turn(hJz:∀z s V V',W.heap.size<=z->J z s V->V.grownBy V' (some z)->J z s V')(hW:W.heap.size<=u.heap.size)(hn:n₀<=u.heap.size){z:Nat}(hz:u.heap.size<=z){ss:List Sd}{A V:World}(h:AsI W u n₀ Ms J s0 z ss A)(k:A.grownBy V (some z)):AsI W u n₀ Ms J s0 z ss V:=by
 have hu:=h.kp.size;have hb:∀i,i<u.heap.size->V.heap[i]?=A.heap[i]?:=fun i hi=>k.block i oM (fun e=>by injection e with e;omega)
 exact⟨hJz z _ A V oM h.j k,h.kp.far hn hb k.size,ZO h.kf hb k.size⟩
end
end
section
attribute [local go_sem] Oper.semAt_some
def mxL{α:Type}(l:List (List α)):Nat:=(l.map List.length).foldl max 0
structure MxI(w6:World)(Bm p:Nat)(pre:List Sd)(V:World):Prop where
 os:V.os=w6.os
 tape:V.tape=w6.tape
 output:V.output=w6.output
 size:w6.heap.size<=V.heap.size
 bl:Bm<w6.heap.size
 fr:∀q,q<w6.heap.size->q≠Bm->V.heap[q]?=w6.heap[q]?
 mx:V.rowIs Bm 3 1 (fun _=>.int .i64 (mxL (pre.map (sdW p)):Int))
section
variable {w6 V V' : World} {Bm p : Nat} {pre : List Sd}
theorem MxI.far(h:MxI w6 Bm p pre V)(k:Below w6.heap.size V V'):MxI w6 Bm p pre V' :=
 ⟨k.os.trans h.os,k.tape.trans h.tape,k.output.trans h.output,Nat.le_trans h.size k.size,h.bl,fun q q1 q2=>(k.block q q1).trans (h.fr q q1 q2),h.mx.of_block (k.block _ h.bl)⟩
theorem MxI.own(w6:World)(Bm p:Nat):OwnFrom w6.heap.size (MxI w6 Bm p):=fun pre V V' row h k q=>by
 have:=h.size;exact h.far ⟨k.os,k.tape,k.output,k.size,fun b hb=>k.block b oM (fun e=>by have:=(q b e.symm).1;omega)⟩
theorem MxI.push(h:MxI w6 Bm p pre V){s:Sd}(k:Below V.heap.size V V'){x:Int}(hx:x=(mxL ((pre++[s]).map (sdW p)):Int)):MxI w6 Bm p (pre++[s]) (V'.setCell ⟨Bm,0,none⟩ (.int .i64 x)):=by
 have h':=h.far (k.mono h.size);refine⟨h'.os,h'.tape,h'.output,by rw[Xd];exact h'.size,h'.bl,fun q q1 q2=>(Below.heap_setCell _ _ _ _ q2).trans (h'.fr q q1 q2),?_⟩;rw[<-hx];exact(h'.mx.set 0 _).congr (fun i hi=>by rw[show i=0 by omega];simp)
end
end
theorem Zbo{xs:List Xi}{b:Nat}(hb:b<xs.length)(V i:Nat):VA xs V b i=Xh (ptP xs xs[b] V b i):=by
 unfold VA;rw[List.getElem?_eq_getElem hb]
theorem ZeZ{xs:List Xi}{b:Nat}(hb:b<xs.length):(KJ xs b).length=xs[b].instrs.length:=by
 unfold KJ;rw[List.getElem?_eq_getElem hb];simp[YN]
def ZI(xs:List Xi):Prop:=∀b,b<xs.length->Re (Xx xs) b
open Classical in
noncomputable def verdP(v:Int)(xs:List Xi):Int:=if XQ ⟨v,xs⟩=false then 9 else if ¬ZI xs then 10 else if ∃x,Bad xs x then 11 else 0
theorem Zdx:∀(n:Nat)(F:List Nat),(∀b,b<n->b∈F)->n<=F.length
 | 0,_,_=>Nat.zero_le _
 | n+1,F,h=>by
  have h1:=Zdx n (F.erase n) (fun b hb=>(List.mem_erase_of_ne oM).2 (h b oM));have h2:n∈F:=h n oM;rw[List.length_erase_of_mem h2]at h1;have:=List.length_pos_of_mem h2;omega
theorem ZaU{xs:List Xi}(ho:Up xs){F:List Nat}(hn:F.Nodup)(hm:∀x,x∈F↔Re (Xx xs) x):F.length<=xs.length/\(F.length=xs.length↔ZI xs):=by
 have hl:F.length<=xs.length:=YB hn (fun x hx=>ho.re x ((hm x).1 hx));refine⟨hl,fun h b hb=>?_,fun h=>?_⟩
 ·apply Classical.byContradiction
  intro hc;have hnd:(b::F).Nodup:=List.nodup_cons.2 ⟨fun h2=>hc ((hm b).1 h2),hn⟩;have:=YB (n:=xs.length) hnd (fun x hx=>by
   rcases List.mem_cons.1 hx with rfl | hx
   ·exact hb
   ·exact ho.re x ((hm x).1 hx))
  rw[List.length_cons]at this;omega
 ·have:=Zdx xs.length F (fun b hb=>(hm b).2 (h b hb))
  omega
open Classical in
theorem Wf{v:Int}{xs:List Xi}(h:XQ ⟨v,xs⟩=false):verdP v xs=9:=by unfold verdP;rw[if_pos h]
open Classical in
theorem ZaQ{v:Int}{xs:List Xi}(h:XQ ⟨v,xs⟩=true)(k:¬ZI xs):verdP v xs=10:=by unfold verdP;rw[if_neg (by rw[h];decide),if_pos k]
open Classical in
theorem ZaH{v:Int}{xs:List Xi}(h:XQ ⟨v,xs⟩=true)(k:ZI xs)(m:∃x,Bad xs x):verdP v xs=11:=by unfold verdP;rw[if_neg (by rw[h];decide),if_neg (fun q=>q k),if_pos m]
open Classical in
theorem Za1{v:Int}{xs:List Xi}(h:XQ ⟨v,xs⟩=true)(k:ZI xs)(m:¬∃x,Bad xs x):verdP v xs=0:=by unfold verdP;rw[if_neg (by rw[h];decide),if_neg (fun q=>q k),if_neg m]
structure Zbm(C:Nat->Int)(l:List Nat)(c:Nat):Prop where
 free:∀u∈l,C u≠(c:Int)
 low:∀c',c' < c->∃u∈l,C u=(c':Int)
theorem Zbm.one{C:Nat->Int}{l:List Nat}{c d:Nat}(h:Zbm C l c)(k:Zbm C l d):c=d:=by
 rcases Nat.lt_trichotomy c d with e | e | e
 ·obtain⟨u,h1,h2⟩:=k.low c e
  exact absurd h2 (h.free u h1)
 ·exact e
 ·obtain⟨u,h1,h2⟩:=h.low d e
  exact absurd h2 (k.free u h1)
theorem Zdm{C:Nat->Int}{l:List Nat}{c:Nat}(h:∀c',c' < c->∃u∈l,C u=(c':Int)):c<=l.length:=by
 have h1:=We (A:=List.range c) (B:=l.map fun u=>(C u).toNat) List.nodup_range (fun x hx=>by
  obtain⟨u,hu,e⟩:=h x (List.mem_range.1 hx);exact List.mem_map.2 ⟨u,hu,by rw[e];rfl⟩)
 simpa using h1
theorem Zdl{C:Nat->Int}{l:List Nat}(h:∀c',c' < l.length->∃u∈l,C u=(c':Int)):Zbm C l l.length:=by
 refine⟨fun u hu e=>?_,h⟩;have:=Zdm (C:=C) (l:=l) (c:=l.length+1) (fun c' hc=>by
  by_cases e2:c'=l.length
  ·subst e2;exact⟨u,hu,e⟩
  ·exact h c' oM)
 omega
theorem ZfT{C:Nat->Int}{l:List Nat}{c V v:Nat}(h:∀c',c' < c->∃u∈l,C u=(c':Int))(hl:∀u∈l,u<V)(hv:v<V)(hC:C v=-1):c<V:=by
 have h1:=We (A:=List.range c) (B:=((List.range V).erase v).map fun u=>(C u).toNat) List.nodup_range (fun x hx=>by
  obtain⟨u,hu,e⟩:=h x (List.mem_range.1 hx);have hne:u≠v:=fun e2=>by rw[e2,hC]at e;omega
  exact List.mem_map.2 ⟨u,(List.mem_erase_of_ne hne).2 (List.mem_range.2 (hl u hu)),by rw[e];rfl⟩)
 rw[List.length_map,List.length_erase_of_mem (List.mem_range.2 hv),List.length_range,List.length_range]at h1;omega
open Classical in
theorem Zh6(C:Nat->Int)(l:List Nat):∃c,Zbm C l c:=by
 by_cases h:∀c',c' < l.length->∃u∈l,C u=(c':Int)
 ·exact⟨_,Zdl h⟩
 ·have hex:∃c,¬∃u∈l,C u=((c:Nat):Int):=by
   apply Classical.byContradiction;intro h2;exact h (fun c' _=>Classical.byContradiction (fun h3=>h2 ⟨c',h3⟩))
  have key:∀n c,c<=n->(¬∃u∈l,C u=((c:Nat):Int))->∃c,Zbm C l c:=by
   intro n
   induction n with
   | zero =>
    intro c hc hn;exact⟨c,fun u hu e=>hn ⟨u,hu,e⟩,fun c' hc'=>absurd hc' oM⟩
   | succ n ih =>
    intro c hc hn;by_cases hlow:∀c',c' < c->∃u∈l,C u=(c':Int)
    ·exact⟨c,fun u hu e=>hn ⟨u,hu,e⟩,hlow⟩
    ·have:∃c',c' < c/\¬∃u∈l,C u=((c':Nat):Int):=by
      apply Classical.byContradiction;intro h2;exact hlow (fun c' hc'=>Classical.byContradiction (fun h3=>h2 ⟨c',hc',h3⟩))
     obtain⟨c',h1,h2⟩:=this;exact ih c' oM h2
  obtain⟨c,hc⟩:=hex;exact key c c (Nat.le_refl _) hc
noncomputable def smN(C:Nat->Int)(l:List Nat):Nat:=Classical.choose (Zh6 C l)
theorem ZbZ(C:Nat->Int)(l:List Nat):Zbm C l (smN C l):=Classical.choose_spec (Zh6 C l)
theorem Zcl{C:Nat->Int}{l:List Nat}{c:Nat}(h:Zbm C l c):smN C l=c:=(ZbZ C l).one h
theorem ZhX(C:Nat->Int)(l:List Nat):smN C l<=l.length:=Zdm (ZbZ C l).low
noncomputable def ckS(C:Nat->Int)(s:Nat × List Nat):Nat->Int:=fun u=>if u=s.1 then (smN C s.2:Int)else C u
noncomputable def ZF(C:Nat->Int)(ss:List (Nat × List Nat)):Nat->Int:=ss.foldl ckS C
theorem UN(C:Nat->Int)(ss:List (Nat × List Nat))(s:Nat × List Nat):ZF C (ss++[s])=ckS (ZF C ss) s:=by unfold ZF;rw[List.foldl_append];rfl
theorem Zdj(C:Nat->Int)(ss tt:List (Nat × List Nat)):ZF C (ss++tt)=ZF (ZF C ss) tt:=by unfold ZF;rw[List.foldl_append]
noncomputable def T9(xs:List Xi)(V b:Nat)(x:Xi)(k:Nat):List (Nat × List Nat):=(x.phis.take k).map fun p=>(p.dst.toNat,ptP xs x V b 0)
noncomputable def Kv(xs:List Xi)(V b:Nat)(x:Xi):Nat->List (Nat × List Nat)
 | 0=>[]
 | k+1=>Kv xs V b x k++match x.instrs[k]? with
  | none=>[]
  | some y=>(writesI y).map fun v=>(v.toNat,ptP xs x V b (k+1))
noncomputable def skB(xs:List Xi)(V b:Nat):List (Nat × List Nat):=match xs[b]? with
 | none=>[]
 | some x=>T9 xs V b x x.phis.length++Kv xs V b x x.instrs.length
noncomputable def ZE(xs:List Xi)(V:Nat)(od:List Nat):List (Nat × List Nat):=od.flatMap (skB xs V)
theorem UC(xs:List Xi)(V:Nat)(od:List Nat)(b:Nat):ZE xs V (od++[b])=ZE xs V od++skB xs V b:=by unfold ZE;rw[List.flatMap_append];simp
noncomputable def ckN(C:Nat->Int):Nat->Int
 | 0=>0
 | V+1=>max (ckN C V) (C V+1)
section
structure IaAt(w:World)(g K C:Nat)(W:Nat->Int):Prop where
 le:K<=C
 ex:∃T:Nat->Value,w.rowIs g 2 C (fun i=>if i<K then .int .i64 (W i)else T i)
namespace IaAt
variable {w : World} {g K C : Nat} {W W' : Nat -> Int}
theorem lt(h:IaAt w g K C W):g<w.heap.size:=by
 obtain⟨_,T,h⟩:=h;exact h.lt
theorem cell(h:IaAt w g K C W){i:Nat}(hi:i<K):w.cell? ⟨g,i,none⟩=some (.int .i64 (W i)):=by
 obtain⟨hl,T,h⟩:=h;have:=h.cell (i:=i) oM;rwa[if_pos hi]at this
theorem frozen(h:IaAt w g K C W)(i:Nat):w.frozen? ⟨g,i,none⟩=false:=by
 obtain⟨_,T,h⟩:=h;exact h.frozen i
theorem congr(h:IaAt w g K C W)(e:∀i,i<K->W i=W' i):IaAt w g K C W':=by
 obtain⟨hl,T,h⟩:=h;refine⟨hl,T,h.congr (fun i _=>?_)⟩;by_cases hi:i<K
 ·rw[if_pos hi,if_pos hi,e i hi]
 ·rw[if_neg hi,if_neg hi]
theorem of_block{w':World}(h:IaAt w g K C W)(e:w'.heap[g]?=w.heap[g]?):IaAt w' g K C W:=by
 obtain⟨hl,T,h⟩:=h;exact⟨hl,T,h.of_block e⟩
theorem set(h:IaAt w g K C W)(i:Nat)(v:Int)(hi:i<K):IaAt (w.setCell ⟨g,i,none⟩ (.int .i64 v)) g K C (fun j=>if j=i then v else W j):=by
 obtain⟨hl,T,h⟩:=h;refine⟨hl,T,(h.set i _).congr (fun j _=>?_)⟩;by_cases e:j=i
 ·rw[if_pos e,if_pos oM,if_pos e]
 ·rw[if_neg e,if_neg e]
theorem setOther(h:IaAt w g K C W){a:Addr}(ha:g≠a.block)(v:Value):IaAt (w.setCell a v) g K C W:=by
 obtain⟨hl,T,h⟩:=h;exact⟨hl,T,h.setOther ha v⟩
theorem alloc(h:IaAt w g K C W)(o:Obj):IaAt (w.alloc o) g K C W:=by
 obtain⟨hl,T,h⟩:=h;exact⟨hl,T,h.alloc o⟩
theorem drew(h:IaAt w g K C W):IaAt w.drew g K C W:=by
 obtain⟨hl,T,h⟩:=h;exact⟨hl,T,h.drew⟩
theorem of_row(h:w.rowIs g 2 K (fun i=>.int .i64 (W i))):IaAt w g K K W :=
 ⟨Nat.le_refl _,fun _=>.int .i64 0,h.congr (fun i hi=>by rw[if_pos hi])⟩
theorem of_own{base:Nat}{v:Value}{ws:List Int}(h:w.ownsRow base 2 1 v ws.length (ws.map (Value.int .i64)))(hv:v≠.slice none 0 0):∃g C,v=.slice (some ⟨g,0,none⟩) ws.length C/\base<=g/\IaAt w g ws.length C (fun i=>ws.getD i 0):=by
 obtain⟨hl,h | ⟨g,cap,cur,rfl,hg,hh,hc,_,hs,ht⟩⟩:=h
 ·exact absurd h.1 hv
 ·simp only[Nat.mul_one]at hl hs ht
  refine⟨g,cap,rfl,hg,hc,fun i=>cur[i]?.getD (.int .i64 0),cur,hh,hs,fun i hi=>?_⟩;show cur[i]?=some (if i<ws.length then Value.int .i64 (ws.getD i 0)else cur[i]?.getD (.int .i64 0));by_cases e:i<ws.length
  ·rw[if_pos e]
   have h1:(cur.toList.take ws.length)[i]?=some (Value.int .i64 ws[i]):=by rw[ht];simp[e]
   rw[List.getElem?_take_of_lt e]at h1;have e2:ws.getD i 0=ws[i]:=by simp[e]
   rw[e2];simpa using h1
  ·rw[if_neg e]
   have:i<cur.size:=oM;simp[this]
end IaAt
end
theorem ZbQ{w:World}{g V cap:Nat}{C:Nat->Int}(h:IaAt w g V cap C):Xg w 0 w.heap.size (some ⟨g,0,none⟩) ((List.range V).map C):=fun i hi=>by
 simp only[List.length_map,List.length_range]at hi;refine⟨g,0,rfl,⟨Nat.zero_le _,h.lt⟩,?_⟩;simp only[List.getElem_map,List.getElem_range,Nat.zero_add];exact h.cell hi
theorem Zep{V:Nat}{C:Nat->Int}{l:List Nat}(hl:∀u∈l,u<V)(c:Nat):Zd8 ((List.range V).map C) l c↔∃u∈l,C u=(c:Int):=by
 unfold Zd8;constructor
 ·rintro⟨u,h1,h2⟩
  exact⟨u,h1,by have:=hl u h1;simpa [this]using h2⟩
 ·rintro⟨u,h1,h2⟩
  exact⟨u,h1,by have:=hl u h1;simp[this,h2]⟩
theorem Zhu{V Kw:Nat}{W:Nat->Nat}(h:WJ V Kw W):∀u∈lsN W (64*Kw),u<V:=fun u hu=>by
 unfold lsN at hu;obtain⟨h1,h2⟩:=List.mem_filter.1 hu;exact h u (List.mem_range.1 h1) h2
def ZhG(C:Nat->Int)(l:List Nat)(c:Nat):Prop:=∀c',c' < c->∃u∈l,C u=(c':Int)
theorem ZfO(v V z Kw Cp cap g bc bv:Nat)(W:Nat->Nat)(C:Nat->Int)(w:World)(hz:Hid (WsAt w z Kw Cp W))(hwd:Hid (Xw W))(hT:Hid (Zs w))(hK:Kw<=100)(hlt:Hid (WJ V Kw W))(hV:V<=2000)(hC:Hid (IaAt w g V cap C))(hc:Hid (∀u,u<V->C u=-1\/0<=C u/\C u<V))(hv:v<V)(hn:Hid (C v=-1))(h1:w.cell? ⟨bc,0,none⟩=some (.slice (some ⟨g,0,none⟩) V cap))(h2:w.cell? ⟨bv,0,none⟩=some (.int .i64 (V:Int)))(hbg:bc≠g) :
 Calls Tryz.prog 57 #[.int .i64 (v:Int),.agg #[.slice (some ⟨z,0,none⟩) Kw Cp],.pointer (some ⟨bc,0,none⟩),.pointer (some ⟨bv,0,none⟩)] w fun e w'=>e=.returned (.int .i64 (smN C (lsN W (64*Kw)):Int))/\w.grownBy w' (some g)/\IaAt w' g V cap (ckS C (v,lsN W (64*Kw))):=by
 obtain⟨Kr,hKr⟩:∃Kr,Kr=(V+63) / 64:=⟨_,rfl⟩;have HCO:=Xa (fun U (hb:Below w.heap.size w U)=>Wv z Kw Cp W (some ⟨g,0,none⟩) V cap V Kr ((List.range V).map C) 0 U.heap.size U (Xa (hz.of_block (hb.block z hz.lt))) hwd (Xa (ZbQ (hC.of_block (hb.block g hC.lt)))) (Xa sP) (Nat.le_refl _) (Xa (hT.of_block (hb.block _ (World.block_lt_of_cell? w _ (hT.out 0 vZ))))) hK hlt hV (Xa hKr) (Xa (fun c hm=>by
  obtain⟨u,hu,rfl⟩:=List.mem_map.1 hm;exact hc.out u (List.mem_range.1 hu))))
 have hKr1:V<=64*Kr:=oM;have hKr2:Kr<=100:=oM;clear hKr;have HL:=Xa (Zhu hlt.out);generalize lsN W (64*Kw)=l at *;have HLO:Hid (∀c,ZhG C l c->c<V):=Xa (fun c h=>ZfT h HL.out hv hn.out);have l1:=World.block_lt_of_cell? w _ h1;have l2:=World.block_lt_of_cell? w _ h2;have hgl:=hC.lt
 go_enter Tryz.func57,Tryz.ntmps57
 go_wp2_with fail
 refine(HCO.out _ (Xb (Below.refl _ _) _)).mono ?_;rintro e w1 ⟨gT,T,rfl,hgT,hb1,hT1,hd1,hh1⟩;have hs1:w.heap.size+1<=w1.heap.size:=by have:=hb1.size;simpa using this
 have HB1:=Xa (Xe (Xb (Below.refl w.heap.size w) (.cells #[.slice (some ⟨z,0,none⟩) Kw Cp] 75)) hb1);have HT1:=Xa hT1;have HD1:=Xa hd1;have HH1:Hid (∀c,c<64*Kr->(Xf T c=true↔∃u∈l,C u=(c:Int))):=Xa (fun c hc'=>(hh1 c hc').trans (Zep HL.out c));clear hb1 hT1 hd1 hh1 HCO
 go_wp2_with fail
 have HB2:Hid (Below w.heap.size w (w1.alloc (.cells #[.slice (some ⟨gT,0,none⟩) Kr Kr] 84))):=Xa (Xb HB1.out _);have HT2:Hid (WsAt (w1.alloc (.cells #[.slice (some ⟨gT,0,none⟩) Kr Kr] 84)) gT Kr Kr T):=Xa (HT1.alloc _);have hx2:(w1.alloc (.cells #[.slice (some ⟨gT,0,none⟩) Kr Kr] 84)).cell? ⟨w1.heap.size,0,none⟩=some (.slice (some ⟨gT,0,none⟩) Kr Kr):=by simp[go_sem]
 have hs2:w1.heap.size<(w1.alloc (.cells #[.slice (some ⟨gT,0,none⟩) Kr Kr] 84)).heap.size:=sP;generalize w1.alloc (.cells #[.slice (some ⟨gT,0,none⟩) Kr Kr] 84)=w2 at *;have HX2:=Xa hx2;clear hx2 HT1
 go_loopw [8] (fun u wr=>∃c:Nat,u=.int .i64 c/\Hid (ZhG C l c)/\Hid (Below w2.heap.size w2 wr)) (fun u _=>V-(intOf u).toNat)
 case atStart=>exact⟨0,rfl,Xa (fun c' h=>absurd h oM),Xa (Below.refl _ _)⟩
 case round =>
  obtain⟨c,rfl,HC0,HBw⟩:=hrel;have hcV:=HLO.out c HC0.out;have hx:=(HBw.cell (p:=⟨w1.heap.size,0,none⟩) hs2).trans HX2.out;have hTw:=HT2.of_block (HBw.block gT HT2.lt);have HHA:=Xa (Zb7 gT Kr c T wr HD1 (Xa (by
   obtain⟨_,X,hX⟩:=hTw;exact hX.congr (fun i hi=>by rw[if_pos hi]))) oM oM)
  have hk1:=(HBw.cell (p:=⟨bc,0,none⟩) (by have:=HB2.size;show bc<_;have:bc<w.heap.size:=l1;omega)).trans ((HB2.cell (p:=⟨bc,0,none⟩) l1).trans h1);have HCw:=Xa ((hC.of_block (HB2.block g hgl)).of_block (HBw.block g (by have:=HB2.size;omega)));clear hTw;cases hh:Xf T c with
  | true =>
   rw[hh]at HHA;have HN:Hid (ZhG C l (c+1)):=Xa (fun c' h=>by
    by_cases e:c'=c
    ·subst e
     exact(HH1.out c' oM).1 hh
    ·exact HC0.out c' oM)
   have hcV2:=HLO.out _ HN.out;clear hh
   go_wp2_with fail
   refine HHA.mono ?_;rintro e w3 ⟨rfl,hb3⟩;have HB3:=Xa (Xe HBw.out hb3);clear hb3 HHA
   go_wp2_with fail
   exact⟨⟨c+1,gM,HN,HB3⟩,by simp[intOf];omega⟩
  | false =>
   rw[hh]at HHA;have hsm:smN C l=c:=Zcl ⟨fun u hu e=>by
    have:=(HH1.out c oM).2 ⟨u,hu,e⟩;rw[hh]at this;exact absurd this vZ,HC0.out⟩
   have HSM:=Xa hsm;clear hh hsm
   go_wp2_with fail
   refine HHA.mono ?_;rintro e w3 ⟨rfl,hb3⟩;have hk3:=(hb3.cell (p:=⟨bc,0,none⟩) (World.block_lt_of_cell? wr _ hk1)).trans hk1;have HC3:=Xa (HCw.of_block (hb3.block g HCw.lt));have HB3:Hid (Below w.heap.size w w3):=Xa (HB2.trans ((Xe HBw.out hb3).mono HB2.size));have yc:=HC3.cell hv;have yf:=HC3.frozen v;clear hb3 HHA hk1 hx
   go_wp2_with fail
   have hk4:(w3.setCell ⟨g,v,none⟩ (.int .i64 (c:Int))).cell? ⟨bc,0,none⟩=some (.slice (some ⟨g,0,none⟩) V cap):=(World.cell?_setCell_far w3 ⟨g,v,none⟩ ⟨bc,0,none⟩ _ (by show g≠bc;exact fun e=>hbg e.symm)).trans hk3;have hc4:=(HC3.set v (c:Int) hv).cell hv;rw[if_pos rfl]at hc4;have HC4:=Xa (HC3.set v (c:Int) hv);have HB4:Hid (w.grownBy (w3.setCell ⟨g,v,none⟩ (.int .i64 (c:Int))) (some g)):=Xa ((⟨HB3.os,HB3.tape,HB3.output,HB3.size,fun k hk _=>HB3.block k hk⟩:w.grownBy w3 (some g)).trans ⟨rfl,rfl,rfl,by simp[World.setCell],fun k _ hk=>Below.heap_setCell _ _ _ _ (fun e=>hk (by rw[e]))⟩);generalize w3.setCell ⟨g,v,none⟩ (.int .i64 (c:Int))=w4 at *
   go_wp2_with fail
   go_ret
   refine⟨by rw[HSM.out];rfl,HB4.out,HC4.congr (fun i _=>?_)⟩;unfold ckS;rw[HSM.out]
end Go.Proofs.YthgikffcdgpgiaaGreatDoor
