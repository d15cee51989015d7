import Derived.Test.YthgikffcdgpgiaaGreatDoorW10
namespace Go.Proofs.YthgikffcdgpgiaaGreatDoor
set_option maxHeartbeats 2000000
open Go.RowKit
theorem TZ(ps:List Ph)(p:Ph):XK (ps++[p])=XK ps+(1+p.args.length):=by simp[XK]
theorem K7(xs:List Xi)(x:Xi):Xo (xs++[x])=Xo xs+(1+x.instrs.length+XK x.phis):=by simp[Xo,Kj]
theorem U0(ps:List Ph):ps.length<=XK ps:=by
 induction ps with
 | nil=>simp
 | cons p ps ih=>simp only[XK,List.map_cons,List.sum_cons,List.length_cons]at ih |-;omega
theorem TU(ps:List Ph)(k:Nat):XK (ps.take k)<=XK ps:=YU _ _ _
theorem K8(xs:List Xi)(k:Nat):Xo (xs.take k)<=Xo xs:=YU _ _ _
theorem U8(v:Int)(a:Option Addr)(n c:Nat)(xs:List Xi)(L B:Nat)(w:World)(ha:Hid (Xl w L B a xs))(hx:Hid (n=xs.length))(hn:n<=1048576)(hs:Xo xs<=1048576)(hB:B<=w.heap.size) :
 Calls Tryz.prog 73 #[.agg #[.int .i64 v,.slice a n c]] w fun e w'=>e=.returned (.int .i64 (Xo xs))/\Below w.heap.size w w':=by
 go_enter Tryz.func73,Tryz.ntmps73
 go_wp2;have hbel:=Xb (Below.refl w.heap.size w) (.cells #[.int .i64 v,.slice a n c] 32);have hbox:(w.alloc (.cells #[.int .i64 v,.slice a n c] 32)).cell? ⟨w.heap.size,1,none⟩=some (.slice a n c):=sP;generalize w.alloc (.cells #[.int .i64 v,.slice a n c] 32)=w1 at *
 go_loop [3,4] (fun u i=>∃k:Nat,k<=n/\i=.int .i64 k/\u=.int .i64 (Xo (xs.take k):Nat)) (fun _ i=>n-(intOf i).toNat)
 case atStart=>exact⟨0,Nat.zero_le _,rfl,rfl⟩
 case round =>
  obtain⟨k,hk,rfl,rfl⟩:=hrel;by_cases hlt:k<n
  ·have hkx:k<xs.length:=by have:=hx.out;omega
   obtain⟨b,o,rfl,⟨_,hbB⟩,hc⟩:=ha.out k hkx;obtain⟨pa,pc,ia,ic,e0,e1,_,hp,_⟩:=hc.keep (hbel.mono hB) oM;have HP:=Xa hp;have h1:Hid (Xo (xs.take (k+1))=Xo (xs.take k)+(1+xs[k].instrs.length+XK xs[k].phis)):=by show _=_;rw[Xr _ _ hkx,K7]
   have h2:=K8 xs (k+1);have H2:=Xa h2;have hb1:Xo (xs.take k)+(1+xs[k].instrs.length+XK xs[k].phis)<=1048576:=by have:=h1.out;omega
   have hpl:xs[k].phis.length<=1048576:=by have:=U0 xs[k].phis;omega
   clear hc hp h2;generalize xs[k]=X at *;generalize hS:Xo (xs.take k)=S at *;have HS:=Xa hS;clear hS;go_wp2
   go_loop [3,5] (fun u i=>∃j:Nat,j<=X.phis.length/\i=.int .i64 j/\u=.int .i64 (S+(1+X.instrs.length)+XK (X.phis.take j):Nat)) (fun _ i=>X.phis.length-(intOf i).toNat)
   case atStart=>exact⟨0,Nat.zero_le _,rfl,by simp[XK];try omega⟩
   case round =>
    obtain⟨j,hj,rfl,rfl⟩:=hrel;by_cases hjt:j<X.phis.length
    ·obtain⟨b',o',rfl,⟨_,hbB'⟩,aa,cc,g0,g1,_⟩:=HP.out j hjt
     have h3:Hid (XK (X.phis.take (j+1))=XK (X.phis.take j)+(1+X.phis[j].args.length)):=by show _=_;rw[Xr _ _ hjt,TZ]
     have h4:=TU X.phis (j+1);have hb2:XK (X.phis.take j)+(1+X.phis[j].args.length)<=XK X.phis:=by have:=h3.out;omega
     have H4:=Xa h4;clear h4;generalize X.phis[j]=P at *;generalize hT:XK (X.phis.take j)=T at *;have HT:=Xa hT;clear hT;go_wp2
     go_round
     case rel=>exact⟨j+1,oM,gM,by rw[h3.out];go_num⟩
     case measure=>simp[intOf];omega
    ·have e:=List.take_of_length_le (l:=X.phis) (i:=j) oM
     have E:=Xa e;clear e;go_wp2
     go_round
     case rel=>exact⟨k+1,oM,gM,by rw[h1.out,E.out];go_num⟩
     case measure=>simp[intOf];omega
  ·have e:=List.take_of_length_le (l:=xs) (i:=k) (by have:=hx.out;omega)
   have E:=Xa e;clear e;go_wp2
   go_ret
   exact⟨XX (by rw[E.out]),hbel⟩
theorem Ut{F:Fn}(h0:0<=F.values)(h1:F.values<=2000)(h2:1<=F.blocks.length)(h3:F.blocks.length<=1000)(h4:Xo F.blocks<=4000):Yb F=true:=by simp[Yb, *]
theorem KI{F:Fn}(h4:4000<Xo F.blocks):Yb F=false:=by simp[Yb];omega
theorem Uc{F:Fn}(h:¬(0<=F.values/\F.values<=2000/\1<=F.blocks.length/\F.blocks.length<=1000)):Yb F=false:=by simp[Yb];omega
theorem K9(v:Int)(a:Option Addr)(n c:Nat)(xs:List Xi)(L B:Nat)(w:World)(ha:Hid (Xl w L B a xs))(hx:Hid (n=xs.length))(hn:n<=1048576)(hs:Xo xs<=1048576)(hB:B<=w.heap.size) :
 Calls Tryz.prog 86 #[.agg #[.int .i64 v,.slice a n c]] w fun e w'=>e=.returned (.bool (Yb ⟨v,xs⟩))/\Below w.heap.size w w':=by
 by_cases hd:0<=v/\v<=2000/\1<=n/\n<=1000
 ·obtain⟨d0,d1,d2,d3⟩:=hd
  go_enter Tryz.func86,Tryz.ntmps86
  go_wp2
  go_loopw [3,31] (fun u i wr=>∃k:Nat,k<=n/\i=.int .i64 k/\u=.int .i64 (Xo (xs.take k):Nat)/\Xo (xs.take k)<=4000/\Below w.heap.size w wr) (fun _ i _=>n-(intOf i).toNat)
  case atStart=>exact⟨0,Nat.zero_le _,rfl,rfl,by simp[Xo],Xb (Below.refl _ _) _⟩
  case round =>
   obtain⟨k,hk,rfl,rfl,hle,hw⟩:=hrel;by_cases hlt:k<n
   ·have hkx:k<xs.length:=by have:=hx.out;omega
    obtain⟨b,o,rfl,⟨_,hbB⟩,hc⟩:=ha.out k hkx;obtain⟨pa,pc,ia,ic,e0,e1,⟨e2,e3,e4,e5⟩,hp,_⟩:=hc.keep (hw.mono hB) oM;have HP:=Xa (hp.keep (Xb (Below.refl wr.heap.size wr) (.cells #[.slice pa xs[k].phis.length pc,.slice ia xs[k].instrs.length ic,.int .i64 xs[k].term.kind,.int .i64 xs[k].term.a,.int .i64 xs[k].term.to,.int .i64 xs[k].term.els] 57) |>.mono (by have:=hw.size;omega)));have h1:Hid (Xo (xs.take (k+1))=Xo (xs.take k)+(1+xs[k].instrs.length+XK xs[k].phis)):=by show _=_;rw[Xr _ _ hkx,K7]
    have h2:=K8 xs (k+1);have H2:=Xa h2;have hb1:Xo (xs.take k)+(1+xs[k].instrs.length+XK xs[k].phis)<=1048576:=by have:=h1.out;omega
    have hpl:xs[k].phis.length<=1048576:=by have:=U0 xs[k].phis;omega
    have HW:=Xa (Xb hw (.cells #[.slice pa xs[k].phis.length pc,.slice ia xs[k].instrs.length ic,.int .i64 xs[k].term.kind,.int .i64 xs[k].term.a,.int .i64 xs[k].term.to,.int .i64 xs[k].term.els] 57));have hwz:=hw.size;clear hc hp h2;generalize xs[k]=X at *;generalize hS:Xo (xs.take k)=S at *;have HS:=Xa hS;clear hS;go_wp2
    go_loopw [3,44] (fun u i wi=>∃j:Nat,j<=X.phis.length/\i=.int .i64 j/\u=.int .i64 (S+(1+X.instrs.length)+XK (X.phis.take j):Nat)/\Below w.heap.size w wi) (fun _ i _=>X.phis.length-(intOf i).toNat)
    case atStart=>exact⟨0,Nat.zero_le _,rfl,by simp[XK];try omega,HW.out⟩
    case round =>
     obtain⟨j,hj,rfl,rfl,hwi⟩:=hrel;by_cases hjt:j<X.phis.length
     ·obtain⟨b',o',rfl,⟨_,hbB'⟩,aa,cc,g0,g1,_⟩:=HP.out j hjt
      have g0':wr.cell? ⟨b',o' + j*2,none⟩=some (.int .i64 X.phis[j].dst):=by
       have q:=(HW.cell (p:=⟨b',o' + j*2,none⟩) (by show b' < _;omega));exact(hwi.cell (p:=⟨b',o' + j*2,none⟩) (by show b' < _;omega)).trans (q.symm.trans g0)
      have g1':wr.cell? ⟨b',o' + j*2+1,none⟩=some (.slice aa X.phis[j].args.length cc):=by
       have q:=(HW.cell (p:=⟨b',o' + j*2+1,none⟩) (by show b' < _;omega));exact(hwi.cell (p:=⟨b',o' + j*2+1,none⟩) (by show b' < _;omega)).trans (q.symm.trans g1)
      have h3:Hid (XK (X.phis.take (j+1))=XK (X.phis.take j)+(1+X.phis[j].args.length)):=by show _=_;rw[Xr _ _ hjt,TZ]
      have h4:=TU X.phis (j+1);have hb2:XK (X.phis.take j)+(1+X.phis[j].args.length)<=XK X.phis:=by have:=h3.out;omega
      clear h4 g0 g1;generalize X.phis[j]=P at *;generalize hT:XK (X.phis.take j)=T at *;have HT:=Xa hT;clear hT;by_cases hgt:4000<S+(1+X.instrs.length)+(T+(1+P.args.length))
      ·go_wp2
       go_ret
       exact⟨Xm (KI (by have:=h1.out;have:=H2.out;show 4000<Xo xs;omega)).symm,Xb hwi _⟩
      ·go_wp2
       exact⟨⟨j+1,oM,gM,by rw[h3.out];go_num,Xb hwi _⟩,by simp[intOf];omega⟩
     ·have E:=Xa (List.take_of_length_le (l:=X.phis) (i:=j) oM)
      by_cases hgt:4000<S+(1+X.instrs.length)+XK (X.phis.take j)
      ·go_wp2
       go_ret
       exact⟨Xm (KI (by have:=h1.out;have:=H2.out;have e:=E.out;rw[e]at hgt;show 4000<Xo xs;omega)).symm,hwi⟩
      ·go_wp2
       have e:=E.out;rw[e]at hgt |-;exact⟨⟨k+1,oM,gM,by rw[h1.out];go_num,by rw[h1.out];omega,hwi⟩,by simp[intOf];omega⟩
   ·go_wp2
    go_ret
    have e:=List.take_of_length_le (l:=xs) (i:=k) (by have:=hx.out;omega);rw[e]at hle;exact⟨Xm (Ut d0 d1 (by have:=hx.out;show 1<=xs.length;omega) (by have:=hx.out;show xs.length<=1000;omega) hle).symm,hw⟩
 ·have hR:Hid (Yb ⟨v,xs⟩=false):=Uc (F:=⟨v,xs⟩) (by have:=hx.out;show ¬(0<=v/\v<=2000/\1<=xs.length/\xs.length<=1000);omega)
  have hd':v<0\/(0<=v/\2000<v)\/(0<=v/\v<=2000/\n<1)\/(0<=v/\v<=2000/\1<=n/\1000<n):=oM;clear hd;rcases hd' with d | ⟨d,d1⟩ | ⟨d,d1,d2⟩ | ⟨d,d1,d2,d3⟩
  all_goals
   go_enter Tryz.func86,Tryz.ntmps86
   go_wp2
   go_ret
   exact⟨Xm hR.symm,Xb (Below.refl _ _) _⟩
theorem ZeB{F:Fn}{k:Nat}(hk:k<F.blocks.length)(h:Zm F.values F.blocks.length F.blocks[k].term=false):Z1 F=false:=ZA hk h
theorem Vq(v:Int)(a:Option Addr)(n c:Nat)(xs:List Xi)(L B:Nat)(w:World)(ha:Hid (Xl w L B a xs))(hx:Hid (n=xs.length))(hn:n<=1048576)(hB:B<=w.heap.size)(hT:Hid (Kd w)) :
 Calls Tryz.prog 87 #[.agg #[.int .i64 v,.slice a n c]] w fun e w'=>e=.returned (.bool (Z1 ⟨v,xs⟩))/\Below w.heap.size w w':=by
 have hbox:∀o,(w.alloc o).heap.size=w.heap.size+1:=fun o=>sP
 go_enter Tryz.func87,Tryz.ntmps87
 go_wp2
 go_loopw [9] (fun i wr=>∃k:Nat,k<=n/\i=.int .i64 k/\Below w.heap.size w wr/\w.heap.size<wr.heap.size/\wr.cell? ⟨w.heap.size,0,none⟩=some (.int .i64 v)/\wr.cell? ⟨w.heap.size,1,none⟩=some (.slice a n c)/\Hid ((xs.take k).all (fun x=>Zm v xs.length x.term)=true)) (fun i _=>n-(intOf i).toNat)
 case atStart=>exact⟨0,Nat.zero_le _,rfl,Xb (Below.refl _ _) _,sP,sP,sP,rfl⟩
 case round =>
  obtain⟨k,hk,rfl,hw,hsz,hc0,hc1,hall⟩:=hrel;by_cases hlt:k<n
  ·have hkx:k<xs.length:=by have:=hx.out;omega
   obtain⟨b,o,rfl,⟨_,hbB⟩,hc⟩:=ha.out k hkx;obtain⟨pa,pc,ia,ic,e0,e1,⟨e2,e3,e4,e5⟩,_,_⟩:=hc.keep (hw.mono hB) oM;have HT:=Xa (hT.keep hw);have hno:=Xa (fun h=>ZeB (F:=⟨v,xs⟩) (k:=k) hkx h);have hyes:=Xa (fun h=>XM (p:=fun x:Xi=>Zm v xs.length x.term) hkx hall.out h);rw[<-hx.out]at hyes;clear hc;generalize xs[k]=X at *;have hterm:X.term=⟨X.term.kind,X.term.a,X.term.to,X.term.els⟩:=rfl;have hTT:Hid (Zm v n X.term=(YI v 1 n ⟨X.term.kind,X.term.a,X.term.to,X.term.els⟩ && !(X.term.kind==2&&X.term.to==X.term.els))):=rfl;clear hterm;cases hr:YI v 1 n ⟨X.term.kind,X.term.a,X.term.to,X.term.els⟩
   ·have HR:=Xa hr
    clear hr
    go_wp2_with fail
    refine(ZW _ _ _ _ _ _ _ _ ?q1).mono ?_
    case q1=>exact HT.keep (Xb (Xb (Below.refl _ _) _) _)
    rintro e w2 ⟨rfl,hb2⟩;rw[Xq HR];go_wp2
    go_ret
    exact⟨Xm (Xq hno (by have e:=hx.out;show Zm v xs.length X.term=false;rw[<-e,hTT.out,HR.out];rfl)).symm,Xe (Xb (Xb hw _) _) hb2⟩
   ·have HR:=Xa hr
    clear hr;by_cases hq:X.term.kind=2/\X.term.to=X.term.els
    ·have q1:(X.term.kind==2)=true:=by simp[hq.1]
     have q2:(X.term.to==X.term.els)=true:=by simp[hq.2]
     clear hq
     go_wp2_with fail
     refine(ZW _ _ _ _ _ _ _ _ ?q1).mono ?_
     case q1=>exact HT.keep (Xb (Xb (Below.refl _ _) _) _)
     rintro e w2 ⟨rfl,hb2⟩;rw[Xq HR];have hz2:=hb2.size;simp at hz2;obtain⟨hf1,hf2⟩:=bcell hb2;have hz3:wr.heap.size+1<w2.heap.size:=oM;go_wp2
     go_ret
     exact⟨Xm (Xq hno (by have e:=hx.out;show Zm v xs.length X.term=false;rw[<-e,hTT.out,HR.out,q1,q2];rfl)).symm,Xe (Xb (Xb hw _) _) hb2⟩
    ·have hq':(X.term.kind==2)=false\/((X.term.kind==2)=true/\(X.term.to==X.term.els)=false):=by simp only[beq_eq_false_iff_ne,beq_iff_eq];omega
     clear hq;rcases hq' with q1 | ⟨q1,q2⟩
     all_goals
      go_wp2_with fail
      refine(ZW _ _ _ _ _ _ _ _ ?q1).mono ?_
      case q1=>exact HT.keep (Xb (Xb (Below.refl _ _) _) _)
      rintro e w2 ⟨rfl,hb2⟩;rw[Xq HR];have hz2:=hb2.size;simp at hz2;obtain⟨hf1,hf2⟩:=bcell hb2;have hz3:wr.heap.size+1<w2.heap.size:=oM;go_wp2;have hb3:=Xe (Xb (Xb (Below.refl wr.heap.size wr) _) _) hb2;exact⟨⟨k+1,oM,gM,Xe hw hb3,oM,(hb3.cell (p:=⟨w.heap.size,0,none⟩) hsz).trans hc0,(hb3.cell (p:=⟨w.heap.size,1,none⟩) hsz).trans hc1,by
       have e:=hx.out;rw[<-e];exact Xq hyes (by show Zm v n X.term=true;rw[hTT.out,HR.out];first | rw[q1];rfl | rw[q1,q2];rfl)⟩,by simp[intOf];omega⟩
  ·go_wp2
   go_ret
   exact⟨Xm (Yi (xs:=xs) (k:=k) (by have:=hx.out;omega) hall.out).symm,hw⟩
theorem Uf(v:Int)(a:Option Addr)(n c:Nat)(xs:List Xi)(L B:Nat)(w:World)(ha:Hid (Xl w L B a xs))(hx:Hid (n=xs.length))(hn:n<=1048576)(hl:Hid (∀x∈xs,x.instrs.length<=1048576))(hB:B<=w.heap.size)(hT:Hid (Ky w)) :
 Calls Tryz.prog 88 #[.agg #[.int .i64 v,.slice a n c]] w fun e w'=>e=.returned (.bool (YL ⟨v,xs⟩))/\Below w.heap.size w w':=by
 go_enter Tryz.func88,Tryz.ntmps88
 go_wp2
 go_loopw [10] (fun i wr=>∃k:Nat,k<=n/\i=.int .i64 k/\Below w.heap.size w wr/\w.heap.size<wr.heap.size/\wr.cell? ⟨w.heap.size,0,none⟩=some (.int .i64 v)/\Hid ((xs.take k).all (fun x=>x.instrs.all (Ya v 10))=true)) (fun i _=>n-(intOf i).toNat)
 case atStart=>exact⟨0,Nat.zero_le _,rfl,Xb (Below.refl _ _) _,sP,sP,rfl⟩
 case round =>
  obtain⟨k,hk,rfl,hw,hsz,hc0,hall⟩:=hrel;by_cases hlt:k<n
  ·have hkx:k<xs.length:=by have:=hx.out;omega
   obtain⟨b,o,rfl,⟨_,hbB⟩,hc⟩:=ha.out k hkx;obtain⟨pa,pc,ia,ic,e0,e1,⟨e2,e3,e4,e5⟩,_,hi⟩:=hc.keep (hw.mono hB) oM;have hno:=Xa (fun h=>ZA (p:=fun x:Xi=>x.instrs.all (Ya v 10)) (xs:=xs) (k:=k) hkx h);have hyes:=Xa (fun h=>XM (p:=fun x:Xi=>x.instrs.all (Ya v 10)) hkx hall.out h);have hil:=hl.out _ (List.getElem_mem hkx);have HI:=Xa hi;have hwz:=hw.size;clear hc hi;generalize xs[k]=X at *;go_wp2
   go_loopw [17] (fun i wi=>∃j:Nat,j<=X.instrs.length/\i=.int .i64 j/\Below wr.heap.size wr wi/\Hid ((X.instrs.take j).all (Ya v 10)=true)) (fun i _=>X.instrs.length-(intOf i).toNat)
   case atStart=>exact⟨0,Nat.zero_le _,rfl,Xb (Below.refl _ _) _,rfl⟩
   case round =>
    obtain⟨j,hj,rfl,hwi,halli⟩:=hrel;have hB2:=Xe hw hwi;have f0:=(hwi.cell (p:=⟨w.heap.size,0,none⟩) hsz).trans hc0;have hsz2:w.heap.size<wr.heap.size:=by have:=hwi.size;omega
    clear e0 e1 e2 e3 e4 e5;by_cases hjt:j<X.instrs.length
    ·obtain⟨b',o',rfl,⟨_,hbB'⟩,hc'⟩:=HI.out j hjt
     obtain⟨g0,g1,g2,g3,g4⟩:=hc'.keep hwi oM;have HT:=Xa (hT.keep hB2);have hno2:=Xa (fun h=>ZA (p:=Ya v 10) (xs:=X.instrs) (k:=j) hjt h);have hyes2:=Xa (fun h=>XM (p:=Ya v 10) hjt halli.out h);clear hc';generalize X.instrs[j]=P at *;cases hr:Ya v 10 ⟨P.op,P.dst,P.a,P.b,P.imm⟩
     ·have HR:=Xa hr
      clear hr
      go_wp2_with fail
      refine(JP _ _ _ _ _ _ _ ?q1).mono ?_
      case q1=>exact HT.keep (Xb (Below.refl _ _) _)
      rintro e w2 ⟨rfl,hb2⟩;rw[Xq HR];go_wp2
      go_ret
      exact⟨Xm (Xq hno (Xq hno2 HR.out)).symm,Xe (Xb hB2 _) hb2⟩
     ·have HR:=Xa hr
      clear hr
      go_wp2_with fail
      refine(JP _ _ _ _ _ _ _ ?q1).mono ?_
      case q1=>exact HT.keep (Xb (Below.refl _ _) _)
      rintro e w2 ⟨rfl,hb2⟩;rw[Xq HR];go_wp2;exact⟨⟨j+1,oM,gM,Xe (Xb hwi _) hb2,Xq hyes2 HR.out⟩,by simp[intOf];omega⟩
    ·go_wp2
     exact⟨⟨k+1,oM,gM,hB2,hsz2,f0,Xq hyes (Yi (xs:=X.instrs) (k:=j) oM halli.out)⟩,by simp[intOf];omega⟩
  ·go_wp2
   go_ret
   exact⟨Xm (Yi (xs:=xs) (k:=k) (by have:=hx.out;omega) hall.out).symm,hw⟩
end Go.Proofs.YthgikffcdgpgiaaGreatDoor
