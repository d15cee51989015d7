import Derived.Test.YtlmgmkmomaileaaGreatDoorW15
namespace Go.Proofs.YtlmgmkmomaileaaGreatDoor
set_option maxHeartbeats 4000000
open Go.RowKit
theorem TH(op dst a b imm n most:Int)(w:World) :
 Calls Tryz.prog 85 #[.agg #[.int .i64 op,.int .i64 dst,.int .i64 a,.int .i64 b,.int .i64 imm],.int .i64 n,.int .i64 most] w fun e w'=>e=.returned (.bool (Yi n most ⟨op,dst,a,b,imm⟩))/\Below w.heap.size w w':=by
 by_cases h:1<=op/\op<=most
 ·obtain⟨h1,h2⟩:=h
  go_enter Tryz.func85,Tryz.ntmps85
  go_wp2_with fail
  refine(ZeT _ _).mono ?_;rintro e w1 ⟨rfl,rfl⟩
  go_wp2_with fail
  refine(ZjD _ _).mono ?_;rintro e w1 ⟨rfl,rfl⟩
  go_wp2_with fail
  refine(ZjB _ _).mono ?_;rintro e w1 ⟨rfl,rfl⟩;go_wp2
  all_goals
   go_ret
   refine⟨Xj ?_,Xb (Below.refl _ _) _⟩
   first | (simp[Yi,Jj,Vo, *];done) | (simp[Yi,Jj,Vo, *];omega) | (rw[Bool.eq_iff_iff];simp[Yi,Jj,Vo, *];omega)
 ·go_enter Tryz.func85,Tryz.ntmps85
  go_wp2
  all_goals
   go_ret
   refine⟨Xj ?_,Xb (Below.refl _ _) _⟩;symm;unfold Yi;by_cases h1:1<=op
   ·rw[decide_eq_false (p:=op<=most) oM];simp
   ·rw[decide_eq_false (p:=1<=op) h1];simp
end Go.Proofs.YtlmgmkmomaileaaGreatDoor
namespace Go.Proofs.YtlmgmkmomaileaaGreatDoor
set_option maxRecDepth 100000
set_option maxHeartbeats 8000000
open Go.RowKit
attribute [local go_sem ↓] Go.wp_at_zero Go.wp_at_succ
def Kt(v:Int)(n:Nat)(x:Xh):Bool:=x.instrs.all (Yi v 10)&&ZE v n x.term
theorem Zje(F:Fn):(Zn F&&ZW F)=F.blocks.all (Kt F.values F.blocks.length):=by
 rw[show F.blocks.all (Kt F.values F.blocks.length)=F.blocks.all (fun x=>x.instrs.all (Yi F.values 10)&&ZE F.values F.blocks.length x.term) from rfl,Zfd];rfl
theorem Zas(v:Int)(a:Option Addr)(n c:Nat)(xs:List Xh)(L B:Nat)(w:World)(ha:Hid (Xk w L B a xs))(hx:Hid (n=xs.length))(hn:n<=1048576)(hbs:Hid (Xo xs<=1048576))(hB:B<=w.heap.size)
 (h:Hid (¬(0<=v/\v<=2000/\1<=n/\n<=1000/\Xo xs<=4000))) :
 Calls Tryz.prog 56 #[.agg #[.int .i64 v,.slice a n c]] w fun e w'=>e=.returned (.bool false)/\Below w.heap.size w w':=by
 by_cases hd:0<=v/\v<=2000/\1<=n/\n<=1000
 ·obtain⟨d0,d1,d2,d3⟩:=hd
  have hsz:4000<Xo xs:=by have:=h.out;omega
  go_enter Tryz.func56,Tryz.ntmps56
  go_wp2_with fail
  refine(Zad v a n c xs L B _ ?q1 hx hn hbs.out ?q2).mono ?_
  case q1=>exact ha.keep (Xb (Below.refl _ _) _ |>.mono hB)
  case q2=>simp;omega
  rintro e w1 ⟨rfl,hb1⟩;go_wp2
  go_ret
  exact⟨rfl,Xd (Xb (Below.refl _ _) _) hb1⟩
 ·have hd':v<0\/(0<=v/\2000<v)\/(0<=v/\v<=2000/\n<1)\/(0<=v/\v<=2000/\1<=n/\1000<n):=oM
  clear hd;rcases hd' with d | ⟨d,d1⟩ | ⟨d,d1,d2⟩ | ⟨d,d1,d2,d3⟩
  all_goals
   go_enter Tryz.func56,Tryz.ntmps56
   go_wp2
   go_ret
   exact⟨rfl,Xb (Below.refl _ _) _⟩
end Go.Proofs.YtlmgmkmomaileaaGreatDoor
namespace Go.Proofs.YtlmgmkmomaileaaGreatDoor
set_option maxRecDepth 100000
set_option maxHeartbeats 8000000
open Go.RowKit
attribute [local go_sem ↓] Go.wp_at_zero Go.wp_at_succ
theorem WE(m:Nat)(a:Option Addr)(n c:Nat)(xs:List Xh)(L B:Nat)(w:World)(R:Bool)(ha:Hid (Xk w L B a xs))(hx:Hid (n=xs.length))(hs:Hid (xs.length+Xn xs<=1048576))(hB:B<=w.heap.size)
 (d1:(m:Int)<=2000) (d2:1<=n) (d3:n<=1000) (hsz:Xo xs<=4000) (hR:Hid (R=(xs.all (Kt m n)&&Ts ⟨m,xs⟩ && Tw ⟨m,xs⟩))) :
 Calls Tryz.prog 56 #[.agg #[.int .i64 m,.slice a n c]] w fun e w'=>e=.returned (.bool R)/\Below w.heap.size w w':=by
 have hbs:Hid (Xo xs<=1048576):=by show _<=_;omega
 have hlen:=Xa (Uf hs.out)
 go_enter Tryz.func56,Tryz.ntmps56
 go_wp2_with fail
 refine(Zad m a n c xs L B _ ?q1 hx oM hbs.out ?q2).mono ?_
 case q1=>exact ha.keep (Xb (Below.refl _ _) _ |>.mono hB)
 case q2=>simp;omega
 rintro e w1 ⟨rfl,hb1⟩;obtain⟨hc1,hf1⟩:=bcell hb1;have k0:w1.cell? ⟨w.heap.size,0,none⟩=some (.int .i64 m):=by rw[hc1 _ _ sP];simp
 have k1:w1.cell? ⟨w.heap.size,1,none⟩=some (.slice a n c):=by rw[hc1 _ _ sP];simp
 have B1:=Xd (Xb (Below.refl w.heap.size w) _) hb1;have hz1:=hb1.size;simp at hz1;have HB1:=Xa B1;have HA:=Xa (ha.keep (B1.mono hB));clear hc1 hf1 hb1 B1 ha;go_wp2
 go_loopw [4] (fun i wr=>∃k:Nat,k<=n/\i=.int .i64 k/\Below w1.heap.size w1 wr/\Hid ((xs.take k).all (Kt m n)=true)) (fun i _=>n-(intOf i).toNat)
 case atStart=>exact⟨0,Nat.zero_le _,rfl,Below.refl _ _,rfl⟩
 case round =>
  obtain⟨k,hk,rfl,hw,hall⟩:=hrel;by_cases hlt:k<n
  ·have hkx:k<xs.length:=by have:=hx.out;omega
   obtain⟨b,o,rfl,⟨_,hbB⟩,hc⟩:=HA.out k hkx;obtain⟨pa',pc',ia,ic,d0,f1,⟨f2,f3,f4,f5⟩,_,hi⟩:=hc;have e0:=(Xu hw oM).trans d0;have e1:=(Xu hw oM).trans f1;have e2:=(Xu hw oM).trans f2;have e3:=(Xu hw oM).trans f3;have e4:=(Xu hw oM).trans f4;have e5:=(Xu hw oM).trans f5;have k0':=(Xu hw oM).trans k0;have k1':=(Xu hw oM).trans k1;have hil:=(hlen.out _ (List.getElem_mem hkx)).2.1;have hno:=Xa (fun h=>Jq (p:=Kt m n) (xs:=xs) (k:=k) hkx h);have hyes:=Xa (fun h=>XS (p:=Kt m n) hkx hall.out h);have HI:=Xa hi;have hwz:=hw.size;clear hi d0 f1 f2 f3 f4 f5;generalize xs[k]=X at *;have hBK:Hid (Kt m n X=(X.instrs.all (Yi m 10)&&(Zh m 1 n ⟨X.term.kind,X.term.a,X.term.to,X.term.els⟩ && !(X.term.kind==2&&X.term.to==X.term.els)))):=rfl;go_wp2;have hb2:=Xb hw (.cells #[.slice pa' X.phis.length pc',.slice ia X.instrs.length ic,.int .i64 X.term.kind,.int .i64 X.term.a,.int .i64 X.term.to,.int .i64 X.term.els] 50);have m1:(wr.alloc (.cells #[.slice pa' X.phis.length pc',.slice ia X.instrs.length ic,.int .i64 X.term.kind,.int .i64 X.term.a,.int .i64 X.term.to,.int .i64 X.term.els] 50)).cell? ⟨wr.heap.size,1,none⟩=some (.slice ia X.instrs.length ic):=sP;have m2:(wr.alloc (.cells #[.slice pa' X.phis.length pc',.slice ia X.instrs.length ic,.int .i64 X.term.kind,.int .i64 X.term.a,.int .i64 X.term.to,.int .i64 X.term.els] 50)).cell? ⟨wr.heap.size,2,none⟩=some (.int .i64 X.term.kind):=sP;have m3:(wr.alloc (.cells #[.slice pa' X.phis.length pc',.slice ia X.instrs.length ic,.int .i64 X.term.kind,.int .i64 X.term.a,.int .i64 X.term.to,.int .i64 X.term.els] 50)).cell? ⟨wr.heap.size,3,none⟩=some (.int .i64 X.term.a):=sP;have m4:(wr.alloc (.cells #[.slice pa' X.phis.length pc',.slice ia X.instrs.length ic,.int .i64 X.term.kind,.int .i64 X.term.a,.int .i64 X.term.to,.int .i64 X.term.els] 50)).cell? ⟨wr.heap.size,4,none⟩=some (.int .i64 X.term.to):=sP;have m5:(wr.alloc (.cells #[.slice pa' X.phis.length pc',.slice ia X.instrs.length ic,.int .i64 X.term.kind,.int .i64 X.term.a,.int .i64 X.term.to,.int .i64 X.term.els] 50)).cell? ⟨wr.heap.size,5,none⟩=some (.int .i64 X.term.els):=sP;have hz2:wr.heap.size<(wr.alloc (.cells #[.slice pa' X.phis.length pc',.slice ia X.instrs.length ic,.int .i64 X.term.kind,.int .i64 X.term.a,.int .i64 X.term.to,.int .i64 X.term.els] 50)).heap.size:=sP;generalize wr.alloc (.cells #[.slice pa' X.phis.length pc',.slice ia X.instrs.length ic,.int .i64 X.term.kind,.int .i64 X.term.a,.int .i64 X.term.to,.int .i64 X.term.els] 50)=W2 at *;have HW2:=Xa hb2;have hz3:=hb2.size;generalize wr.heap.size=M at *;clear hb2 e0 e1 e2 e3 e4 e5 k0' k1' hw
   go_loopw [6] (fun i wi=>∃j:Nat,j<=X.instrs.length/\i=.int .i64 j/\Below W2.heap.size W2 wi/\Hid ((X.instrs.take j).all (Yi m 10)=true)) (fun i _=>X.instrs.length-(intOf i).toNat)
   case atStart=>exact⟨0,Nat.zero_le _,rfl,Below.refl _ _,rfl⟩
   case round =>
    obtain⟨j,hj,rfl,hwi,halli⟩:=hrel;have hbi:=Xd HW2.out hwi;have r0:=(Xu hbi oM).trans k0;have n1:=(Xu hwi oM).trans m1;have hwiz:=hwi.size;by_cases hjt:j<X.instrs.length
    ·obtain⟨b',o',rfl,⟨_,hbB'⟩,hc'⟩:=HI.out j hjt
     obtain⟨g0,g1,g2,g3,g4⟩:=hc'.keep hbi oM;have hno2:=Xa (fun h=>Jq (p:=Yi m 10) (xs:=X.instrs) (k:=j) hjt h);have hyes2:=Xa (fun h=>XS (p:=Yi m 10) hjt halli.out h);have hj0:(0:Int)<=(j:Int):=oM;have hj1:(j:Int)<(X.instrs.length:Int):=oM;clear hc' m1 m2 m3 m4 m5 k0 k1;generalize X.instrs[j]=P at *;cases hr:Yi m 10 ⟨P.op,P.dst,P.a,P.b,P.imm⟩
     ·have HRR:=Xa hr
      go_wp2
      go_region_with (go_at_call 85;refine(TH _ _ _ _ _ _ _ _).mono ?_;rintro e w2 ⟨rfl,hb2⟩;rw[Xp HRR])
      all_goals
       go_wp2
       go_ret
       exact⟨Xj (by rw[hR.out,Xp hno (by rw[hBK.out,Xp hno2 HRR.out];rfl)];rfl),Xd HB1.out (Xd hbi.drew hb2)⟩
     ·have HRR:=Xa hr
      go_wp2
      go_region_with (go_at_call 85;refine(TH _ _ _ _ _ _ _ _).mono ?_;rintro e w2 ⟨rfl,hb2⟩;rw[Xp HRR])
      all_goals
       go_wp2;exact⟨⟨j+1,oM,gM,Xd hwi.drew hb2,Xp hyes2 HRR.out⟩,by simp[intOf];omega⟩
    ·have hIA:=Xa (Yv (p:=Yi m 10) (xs:=X.instrs) (k:=j) oM halli.out)
     have n2:=(Xu hwi oM).trans m2;have n3:=(Xu hwi oM).trans m3;have n4:=(Xu hwi oM).trans m4;have n5:=(Xu hwi oM).trans m5;clear m1 m2 m3 m4 m5 k0 k1;cases hr:Zh m 1 n ⟨X.term.kind,X.term.a,X.term.to,X.term.els⟩
     ·have HRR:=Xa hr
      clear hr
      go_wp2_with (go_at_call 86;refine(Ki _ _ _ _ _ _ _ _).mono ?_;rintro e w2 ⟨rfl,hb2⟩;rw[Xp HRR])
      go_ret
      exact⟨Xj (by rw[hR.out,Xp hno (by rw[hBK.out,HRR.out];simp)];rfl),Xd HB1.out (Xd hbi hb2)⟩
     ·have HRR:=Xa hr
      clear hr;by_cases hq:X.term.kind=2/\X.term.to=X.term.els
      ·have q1:(X.term.kind==2)=true:=by simp[hq.1]
       have q2:(X.term.to==X.term.els)=true:=by simp[hq.2]
       clear hq
       go_wp2_with (go_at_call 86;refine(Ki _ _ _ _ _ _ _ _).mono ?_;rintro e w2 ⟨rfl,hb2⟩;rw[Xp HRR];have p2:=(hb2.cell (p:=⟨M,2,none⟩) (by show M<_;omega)).trans n2;have p4:=(hb2.cell (p:=⟨M,4,none⟩) (by show M<_;omega)).trans n4;have p5:=(Xu hb2 oM).trans n5)
       go_ret
       exact⟨Xj (by rw[hR.out,Xp hno (by rw[hBK.out,q1,q2];simp)];rfl),Xd HB1.out (Xd hbi hb2)⟩
      ·have hq':(X.term.kind==2)=false\/((X.term.kind==2)=true/\(X.term.to==X.term.els)=false):=by simp only[beq_eq_false_iff_ne,beq_iff_eq];omega
       clear hq;rcases hq' with q1 | ⟨q1,q2⟩
       all_goals
        go_wp2_with (go_at_call 86;refine(Ki _ _ _ _ _ _ _ _).mono ?_;rintro e w2 ⟨rfl,hb2⟩;rw[Xp HRR];have p2:=(hb2.cell (p:=⟨M,2,none⟩) (by show M<_;omega)).trans n2;have p4:=(hb2.cell (p:=⟨M,4,none⟩) (by show M<_;omega)).trans n4;have p5:=(Xu hb2 oM).trans n5)
        exact⟨⟨k+1,oM,gM,Xd hbi hb2,Xp hyes (by rw[hBK.out,HRR.out,hIA.out];first | (rw[q1];rfl) | (rw[q1,q2];rfl))⟩,by simp[intOf];omega⟩
  ·have hBL:=Xa (Yv (p:=Kt m n) (xs:=xs) (k:=k) (by have:=hx.out;omega) hall.out)
   clear hall;go_wp2
   go_loopw [7] (fun i wr=>∃k:Nat,k<=n/\i=.int .i64 k/\Below w1.heap.size w1 wr/\Hid (∀j (h:j<xs.length),j<k->xs[j].phis.all (Z5 m (predsFrom xs 0 (j:Int)).length)=true)) (fun i _=>n-(intOf i).toNat)
   case atStart=>exact⟨0,Nat.zero_le _,rfl,hw,fun j _ h=>absurd h oM⟩
   case round =>
    clear hw hlt hk;obtain⟨k,hk,rfl,hw,hall⟩:=hrel;have k0':=(Xu hw oM).trans k0;have k1':=(Xu hw oM).trans k1;have hwz:=hw.size;by_cases hlt:k<n
    ·have hkx:k<xs.length:=by have:=hx.out;omega
     obtain⟨b,o,rfl,⟨_,hbB⟩,hc⟩:=HA.out k hkx;obtain⟨pa',pc',ia,ic,d0,_,_,hp,_⟩:=hc;obtain⟨hl1,_,hl2⟩:=hlen.out _ (List.getElem_mem hkx);have HL2:=Xa hl2;have hno:Hid (xs[k].phis.all (Z5 m (predsFrom xs 0 (k:Int)).length)=false->Ts ⟨m,xs⟩=false):=fun h=>Vk Z5 ⟨m,xs⟩ (k:=k) hkx h
     have hyes:Hid (xs[k].phis.all (Z5 m (predsFrom xs 0 (k:Int)).length)=true->∀j (h:j<xs.length),j<k+1->xs[j].phis.all (Z5 m (predsFrom xs 0 (j:Int)).length)=true) :=
      fun h j hj hjk=>if e:j=k then by subst e;exact h else hall.out j hj oM
     have HP:=Xa hp;have D0:=Xa d0;have hAw:=Xa (HA.keep (hw.mono oM));have hnl:(predsFrom xs 0 (k:Int)).length<=1048576:=by have:=Yl (k:Int) xs 0;have:=hx.out;omega
     clear hp d0 hl2
     go_wp2_with fail
     refine(Vt m _ n c k xs L B _ hAw hx oM oM).mono ?_;rintro e w2 ⟨a2,c2,rfl,hb2,hi2⟩;have hbw:=Xd hw hb2;have hbz:=hbw.size;clear hi2 hb2 hw k0' k1' hAw;generalize xs[k]=X at *;generalize predsFrom xs 0 (k:Int)=ps at *;go_wp2
     go_loopw [9] (fun i wi=>∃j:Nat,j<=X.phis.length/\i=.int .i64 j/\Below w1.heap.size w1 wi/\Hid ((X.phis.take j).all (Z5 m ps.length)=true)) (fun i _=>X.phis.length-(intOf i).toNat)
     case atStart=>exact⟨0,Nat.zero_le _,rfl,hbw,rfl⟩
     case round =>
      clear hbw hbz;obtain⟨j,hj,rfl,hwi,halli⟩:=hrel;have x0:=(Xu hwi oM).trans k0;have x1:=(Xu hwi oM).trans k1;have x2:=(Xu hwi oM).trans D0.out;have hwiz:=hwi.size;by_cases hjt:j<X.phis.length
      ·obtain⟨b',o',rfl,⟨_,hbB'⟩,aa,cc,g0,g1,hi⟩:=HP.out j hjt
       have e6:=(Xu hwi oM).trans g0;have e7:=(Xu hwi oM).trans g1;have hal:=HL2.out _ (List.getElem_mem hjt);have hno2:=Xa (fun h=>Xp hno (Jq (p:=Z5 m ps.length) (xs:=X.phis) (k:=j) hjt h));have hyes2:=Xa (fun h=>XS (p:=Z5 m ps.length) hjt halli.out h);have HIA:=Xa hi;have hw1z:w.heap.size<wr.heap.size:=oM;clear g0 g1 hi;generalize X.phis[j]=P at *;have hPS:Hid (Z5 m ps.length P=(decide (1<=P.args.length)&&decide (P.args.length=ps.length)&&P.args.all (KG 0 m))):=rfl;by_cases h0:P.args.length=0
       ·have h0':(P.args.length:Int)<1:=oM
        have H0:=Xa h0;clear h0;go_wp2
        go_ret
        exact⟨Xj (by rw[hR.out,Xp hno2 (by rw[hPS.out,H0.out];rfl)];simp),Xd HB1.out (Xb hwi _)⟩
       ·have h0':(1:Int)<=(P.args.length:Int):=oM
        have H0:=Xa h0;clear h0;by_cases h1:P.args.length=ps.length
        ·have h1':((P.args.length:Int) != (ps.length:Int))=false:=by simp[h1]
         have H1:=Xa h1;clear h1;go_wp2;have hb9:=Xb hwi (.cells #[.int .i64 P.dst,.slice aa P.args.length cc] 83);have z1:(wr.alloc (.cells #[.int .i64 P.dst,.slice aa P.args.length cc] 83)).cell? ⟨wr.heap.size,1,none⟩=some (.slice aa P.args.length cc):=sP;have z2:wr.heap.size<(wr.alloc (.cells #[.int .i64 P.dst,.slice aa P.args.length cc] 83)).heap.size:=sP;generalize wr.alloc (.cells #[.int .i64 P.dst,.slice aa P.args.length cc] 83)=w9 at *;generalize wr.heap.size=M at *;have hz9:=hb9.size;have HB9:=Xa hb9;clear x0 x1 x2 e6 e7 h0' h1' hb9
         go_loopw [11] (fun i wi=>∃q:Nat,q<=P.args.length/\i=.int .i64 q/\Below w9.heap.size w9 wi/\Hid ((P.args.take q).all (KG 0 m)=true)) (fun i _=>P.args.length-(intOf i).toNat)
         case atStart=>exact⟨0,Nat.zero_le _,rfl,Below.refl _ _,rfl⟩
         case round =>
          obtain⟨q,hq,rfl,hwq,hallq⟩:=hrel;have y1:=(Xu hwq oM).trans z1;have hbq:=Xd HB9.out hwq;have y0:=(Xu hbq oM).trans k0;by_cases hqt:q<P.args.length
          ·obtain⟨b2,o2,rfl,⟨_,hb2⟩,hc2⟩:=HIA.out q hqt
           have r1:=(Xu hbq oM).trans hc2;have hno3:=Xa (fun h=>Jq (p:=KG 0 m) (xs:=P.args) (k:=q) hqt h);have hyes3:=Xa (fun h=>XS (p:=KG 0 m) hqt hallq.out h);have hq0:(0:Int)<=(q:Int):=oM;have hq1:(q:Int)<(P.args.length:Int):=oM;clear hc2 z1 k0 k1;generalize P.args[q]=A at *;by_cases hA0:A<0
           ·have hA1:decide (A<0)=true:=by simpa using hA0
            go_wp2
            go_quiet (fail)
            go_wp2
            go_ret
            exact⟨Xj (by rw[hR.out,Xp hno2 (by rw[hPS.out,Xp hno3 (by unfold KG;rw[decide_eq_false (p:=0<=A) oM];rfl)];simp)];simp),Xd HB1.out (below_drewN hbq _)⟩
           ·have hA1:decide (A<0)=false:=by simpa using hA0
            have hA2:0<=A:=oM;clear hA0;by_cases hA3:(m:Int)<=A
            ·go_wp2
             go_quiet (fail)
             go_wp2
             go_ret
             exact⟨Xj (by rw[hR.out,Xp hno2 (by rw[hPS.out,Xp hno3 (by unfold KG;rw[decide_eq_false (p:=A<m) oM];simp)];simp)];simp),Xd HB1.out (below_drewN hbq _)⟩
            ·have hA4:A<(m:Int):=oM
             clear hA3;go_wp2
             go_quiet (fail)
             go_wp2;exact⟨⟨q+1,oM,gM,below_drewN hwq _,Xp hyes3 (by unfold KG;rw[decide_eq_true hA2,decide_eq_true hA4];rfl)⟩,by simp[intOf];omega⟩
          ·go_wp2
           exact⟨⟨j+1,oM,gM,hbq,Xp hyes2 (by
            have h1:=H1.out;have h0:=H0.out;rw[hPS.out,decide_eq_true h1,decide_eq_true (p:=1<=P.args.length) oM,Yv (xs:=P.args) (k:=q) oM hallq.out];rfl)⟩,by simp[intOf];omega⟩
        ·have h1':((P.args.length:Int) != (ps.length:Int))=true:=by rw[bne_iff_ne];omega
         have H1:=Xa h1;clear h1;go_wp2
         go_ret
         exact⟨Xj (by rw[hR.out,Xp hno2 (by rw[hPS.out,decide_eq_false H1.out];simp)];simp),Xd HB1.out (Xb hwi _)⟩
      ·go_wp2
       exact⟨⟨k+1,oM,gM,hwi,Xp hyes (Yv (xs:=X.phis) (k:=j) oM halli.out)⟩,by simp[intOf];omega⟩
    ·have hPH:Hid (Ts ⟨m,xs⟩=true):=(Zf Z5 ⟨m,xs⟩ xs 0).2 (fun j hj=>by rw[Nat.zero_add];exact hall.out j hj (by have:=hx.out;omega))
     have hAw:=Xa (HA.keep (hw.mono oM));have hCV:Hid (Tw ⟨m,xs⟩=(decide (((blksDefs xs).length:Int)=m)&&(List.range m).all fun v=>hasI (blksDefs xs) (v:Int))):=rfl;have hdl:(blksDefs xs).length<=1048576:=by have:=Ku xs;have:=hs.out;omega
     clear hall
     go_wp2_with fail
     refine(Zer m _ n c xs L B _ hAw hx oM (show Xn xs<=1048576 by have:=hs.out;omega) oM).mono ?_;rintro e w2 ⟨a2,c2,rfl,hb2,hi2⟩;have hbw:=Xd hw hb2;have y0:=(Xu hbw oM).trans k0;have HI2:=Xa hi2;have HBW:=Xa hbw;clear hi2 hb2 hw k0' k1' hAw hbw k0 k1;generalize blksDefs xs=D at *;by_cases hD:(D.length:Int)=m
     ·have hD':((D.length:Int) != (m:Int))=false:=by simp[hD]
      have HD:=Xa hD;clear hD;go_wp2;clear hD'
      go_loop [13] (fun i=>∃q:Nat,q<=m/\i=.int .i64 q/\Hid (∀p:Nat,p<q->hasI D (p:Int)=true)) (fun i=>m-(intOf i).toNat)
      case atStart=>exact⟨0,Nat.zero_le _,rfl,fun p h=>absurd h oM⟩
      case round =>
       obtain⟨q,hq,rfl,hallq⟩:=hrel;by_cases hqt:q<m
       ·cases hr:hasI D (q:Int)
        ·have HRR:=Xa hr
         go_wp2_with (go_at_call 88;refine(Y7 _ _ _ _ D _ _ _ HI2 rfl hdl).mono ?_;rintro e w3 ⟨rfl,hw3⟩;rw[hw3];clear hw3 w3)
         go_ret
         exact⟨Xj (by
          have hf:((List.range m).all fun v=>hasI D (v:Int))=false:=by
           rw[List.all_eq_false];exact⟨q,by simpa using hqt,by simp[HRR.out]⟩
          rw[hR.out,hCV.out,hf];simp),Xd HB1.out HBW.out⟩
        ·have HRR:=Xa hr
         go_wp2_with (go_at_call 88;refine(Y7 _ _ _ _ D _ _ _ HI2 rfl hdl).mono ?_;rintro e w3 ⟨rfl,hw3⟩;rw[hw3];clear hw3 w3)
         go_round
         case rel=>exact⟨q+1,oM,gM,fun p hp=>if e:p=q then by subst e;exact HRR.out else hallq.out p oM⟩
         case measure=>simp[intOf];omega
       ·go_wp2
        go_ret
        exact⟨Xj (by
         have hf:((List.range m).all fun v=>hasI D (v:Int))=true:=by
          rw[List.all_eq_true];intro p hp;exact hallq.out p (by simp at hp;omega)
         rw[hR.out,hCV.out,hf,hBL.out,hPH.out,decide_eq_true HD.out];rfl),Xd HB1.out HBW.out⟩
     ·have hD':((D.length:Int) != (m:Int))=true:=by rw[bne_iff_ne];exact hD
      have HD:=Xa hD;clear hD;go_wp2
      go_ret
      exact⟨Xj (by rw[hR.out,hCV.out,decide_eq_false HD.out];simp),Xd HB1.out HBW.out⟩
theorem Wg(v:Int)(a:Option Addr)(n c:Nat)(xs:List Xh)(L B:Nat)(w:World)(ha:Hid (Xk w L B a xs))(hx:Hid (n=xs.length))(hs:Hid (xs.length+Xn xs<=1048576))(hB:B<=w.heap.size) :
 Calls Tryz.prog 56 #[.agg #[.int .i64 v,.slice a n c]] w fun e w'=>e=.returned (.bool (Wo ⟨v,xs⟩))/\Below w.heap.size w w':=by
 have hV:Wo ⟨v,xs⟩=(Yt ⟨v,xs⟩ && xs.all (Kt v xs.length)&&Ts ⟨v,xs⟩ && Tw ⟨v,xs⟩):=by
  unfold Wo;rw[Zje]
 have hn:=hx.out;have hbs:Xo xs<=1048576:=by rw[Uj];exact hs.out
 have hs2:=hs.out;by_cases hd:0<=v/\v<=2000/\1<=n/\n<=1000/\Xo xs<=4000
 ·obtain⟨d0,d1,d2,d3,d4⟩:=hd
  have hS:Yt ⟨v,xs⟩=true:=WM d0 d1 (by show 1<=xs.length;omega) (by show xs.length<=1000;omega) d4;obtain⟨m,rfl⟩:=Int.eq_ofNat_of_zero_le d0;rw[hV,hS];exact WE m a n c xs L B w _ ha hx hs hB d1 d2 d3 d4 (by show _=_;rw[<-hn];rfl)
 ·have hS:Yt ⟨v,xs⟩=false:=by
   by_cases hb:Xo xs<=4000
   ·exact Vn (F:=⟨v,xs⟩) (by show ¬(0<=v/\v<=2000/\1<=xs.length/\xs.length<=1000);omega)
   ·exact Ud (F:=⟨v,xs⟩) (by show 4000<Xo xs;omega)
  rw[hV,hS];exact Zas v a n c xs L B w ha hx oM hbs hB hd
end Go.Proofs.YtlmgmkmomaileaaGreatDoor
