import Derived.Test.YtlmgmkmomaileaaGreatDoorVP1
import Derived.Test.YtlmgmkmomaileaaGreatDoorSQ5
namespace Go.Proofs.YtlmgmkmomaileaaGreatDoor
set_option maxHeartbeats 2000000
set_option maxRecDepth 100000
open Go.RowKit
theorem Zan(t:Zu)(w:World) :
 Calls Tryz.prog 126 #[.agg #[.int .i64 t.kind,.int .i64 t.a,.int .i64 t.to,.int .i64 t.els]] w fun e w'=>∃a c,e=.returned (.slice a (rdT t).length c)/\Below w.heap.size w w'/\Xf w' w.heap.size w'.heap.size a (rdT t):=by
 obtain⟨kind,ta,tg,els⟩:=t;by_cases h1:kind=1
 ·subst h1
  go_enter Tryz.func126,Tryz.ntmps126
  go_wp2
  go_ret
  exact⟨_,_,rfl,Xb (Xb (Below.refl _ _) _) _,fun i hi=>absurd hi (by simp[rdT])⟩
 ·have e1:(kind==1)=false:=by simp[h1]
  have hn:rdT ⟨kind,ta,tg,els⟩=[ta]:=by simp[rdT,h1]
  rw[hn];clear h1 hn
  go_enter Tryz.func126,Tryz.ntmps126
  go_wp2
  go_ret
  refine⟨_,_,rfl,Xb (Xb (Below.refl _ _) _) _,fun i hi=>?_⟩
  match i,hi with
  | 0,_=>exact⟨_,_,rfl,⟨sP,sP⟩,sP⟩
theorem Vh(y:XN)(w:World) :
 Calls Tryz.prog 127 #[Zax y] w fun e w'=>∃a c,e=.returned (.slice a (rdI y).length c)/\Below w.heap.size w w'/\Xf w' w.heap.size w'.heap.size a (rdI y):=by
 obtain⟨i0,hi0,hz0,hz1,hz2⟩:=info_parts Tryz.info2';obtain⟨op,dst,ya,yb,imm⟩:=y;have HA:=Xa (fun W=>ZjD op W);have HB:=Xa (fun W=>ZjB op W);have HR:Hid (rdI ⟨op,dst,ya,yb,imm⟩=(if aB op then [ya]else [])++(if bB op then [yb]else [])):=Xa rfl;generalize rdI ⟨op,dst,ya,yb,imm⟩=rs at *;generalize aB op=uA at *;generalize bB op=uB at *;unfold Zax
 go_enter Tryz.func127,Tryz.ntmps127
 go_wp2_with fail
 refine(HA.out _).mono ?_;rintro e w1 ⟨rfl,hw1⟩;rw[hw1];clear hw1 w1;have HW:Hid (Below w.heap.size w ((w.alloc (.cells #[.int .i64 op,.int .i64 dst,.int .i64 ya,.int .i64 yb,.int .i64 imm] 54)).alloc (.cells #[] 2))):=Xa (Xb (Xb (Below.refl _ _) _) _);have HO:=Xa (JZ w (.cells #[.int .i64 op,.int .i64 dst,.int .i64 ya,.int .i64 yb,.int .i64 imm] 54));have hz:w.heap.size<((w.alloc (.cells #[.int .i64 op,.int .i64 dst,.int .i64 ya,.int .i64 yb,.int .i64 imm] 54)).alloc (.cells #[] 2)).heap.size:=by simp;omega
 have hc:∀q v,#[Value.int .i64 op,.int .i64 dst,.int .i64 ya,.int .i64 yb,.int .i64 imm][q]?=some v->((w.alloc (.cells #[.int .i64 op,.int .i64 dst,.int .i64 ya,.int .i64 yb,.int .i64 imm] 54)).alloc (.cells #[] 2)).cell? ⟨w.heap.size,q,none⟩=some v:=fun q v h=>by
  rw[World.cell?_alloc_lt _ _ _ sP];rw[World.cell?_alloc_new];exact h
 generalize (w.alloc (.cells #[.int .i64 op,.int .i64 dst,.int .i64 ya,.int .i64 yb,.int .i64 imm] 54)).alloc (.cells #[] 2)=W at *;have c0:=hc 0 _ rfl;have c2:=hc 2 _ rfl;have c3:=hc 3 _ rfl;clear hc;have HSZ:Hid (w.heap.size<W.heap.size):=Xa hz;cases uA with
 | false =>
  go_wp2_with fail
  refine(HB.out _).mono ?_;rintro e w1 ⟨rfl,hw1⟩;rw[hw1];clear hw1 w1;cases uB with
  | false =>
   go_wp2
   go_ret
   have hr:=HR.out;simp at hr;subst hr;obtain⟨a1,c1,e1,hi1⟩:=Xl (xs:=([]:List Int)) (by simpa using HO.out);exact⟨a1,c1,congrArg Ending.returned e1,HW.out,hi1.mono oM (Nat.le_refl _)⟩
  | true =>
   go_wp2_with (at_builtin;refine wpList_append_own _ rfl _ _ 25 rfl (w.heap.size+1) 2 i0 (.int .i64 0) 1 8 Tryz.underlying25 hi0 hz0 hz1 hz2 rfl dC _ _ _ rfl (HO.alloc _) ⟨W.heap.size,0,none⟩ 1 1 [.int .i64 yb] rfl rfl ?c1 ?c2 ?c3 ?c4 ?c5 ?_)
   case c1 =>
    intro j u hj
    match j,hj with
    | 0,hj=>simp at hj;subst hj;simp[Addr.add]
   case c2=>intro u hu;simp at hu;subst hu;rfl
   case c3=>unfold maxLen;(try simp);(try omega)
   case c4=>simp
   case c5=>simp;omega
   intro v1 w9 hown1 hgrow1 _;have hb9:=Xr (Xb HW.out _) hgrow1 (HO.alloc _) oM (by simp;omega);have HB9:=Xa hb9;have HO9:=Xa hown1;clear hown1 hgrow1 hb9;go_wp2
   go_ret
   have hr:=HR.out;simp at hr;subst hr;obtain⟨a1,c1,e1,hi1⟩:=Xl (xs:=([]:List Int)++[yb]) (by simpa using HO9.out);exact⟨a1,c1,congrArg Ending.returned e1,HB9.out,hi1.mono oM (Nat.le_refl _)⟩
 | true =>
  go_wp2_with (at_builtin;refine wpList_append_own _ rfl _ _ 25 rfl (w.heap.size+1) 2 i0 (.int .i64 0) 1 8 Tryz.underlying25 hi0 hz0 hz1 hz2 rfl dC _ _ _ rfl (HO.alloc _) ⟨W.heap.size,0,none⟩ 1 1 [.int .i64 ya] rfl rfl ?c1 ?c2 ?c3 ?c4 ?c5 ?_)
  case c1 =>
   intro j u hj
   match j,hj with
   | 0,hj=>simp at hj;subst hj;simp[Addr.add]
  case c2=>intro u hu;simp at hu;subst hu;rfl
  case c3=>unfold maxLen;(try simp);(try omega)
  case c4=>simp
  case c5=>simp;omega
  intro v0 w2 hown0 hgrow0 _;have hb2:=Xr (Xb HW.out _) hgrow0 (HO.alloc _) oM (by simp;omega);have hbk:=YD hgrow0 (HO.alloc _) (b:=w.heap.size) oM (by simp;omega);have d3:w2.cell? ⟨w.heap.size,3,none⟩=some (.int .i64 yb):=(Xc hbk).trans ((World.cell?_alloc_lt W _ ⟨w.heap.size,3,none⟩ hz).trans c3);have d0:w2.cell? ⟨w.heap.size,0,none⟩=some (.int .i64 op):=(Xc hbk).trans ((World.cell?_alloc_lt W _ ⟨w.heap.size,0,none⟩ hz).trans c0);have HB2:=Xa hb2;have HO2:Hid (w2.ownsRow (w.heap.size+1) 2 1 v0 1 [.int .i64 ya]):=Xa (by simpa using hown0);have hz2':w.heap.size<w2.heap.size:=by have:=hgrow0.size;simp at this;omega
  clear hown0 hgrow0 hbk hb2 c0 c2 c3
  go_wp2_with fail
  refine(HB.out _).mono ?_;rintro e w1 ⟨rfl,hw1⟩;rw[hw1];clear hw1 w1;cases uB with
  | false =>
   go_wp2
   go_ret
   have hr:=HR.out;simp at hr;subst hr;obtain⟨a1,c1,e1,hi1⟩:=Xl (xs:=[ya]) (by simpa using HO2.out);exact⟨a1,c1,congrArg Ending.returned e1,HB2.out,hi1.mono oM (Nat.le_refl _)⟩
  | true =>
   go_wp2_with (at_builtin;refine wpList_append_own _ rfl _ _ 25 rfl (w.heap.size+1) 2 i0 (.int .i64 0) 1 8 Tryz.underlying25 hi0 hz0 hz1 hz2 rfl dC _ _ _ rfl (HO2.alloc _) ⟨w2.heap.size,0,none⟩ 1 1 [.int .i64 yb] rfl rfl ?c1 ?c2 ?c3 ?c4 ?c5 ?_)
   case c1 =>
    intro j u hj
    match j,hj with
    | 0,hj=>simp at hj;subst hj;simp[Addr.add]
   case c2=>intro u hu;simp at hu;subst hu;rfl
   case c3=>unfold maxLen;(try simp);(try omega)
   case c4=>simp
   case c5=>simp;omega
   intro v1 w9 hown1 hgrow1 _;have hb9:=Xr (Xb HB2.out _) hgrow1 (HO2.alloc _) oM (by simp;omega);have HB9:=Xa hb9;have HO9:=Xa hown1;clear hown1 hgrow1 hb9;go_wp2
   go_ret
   have hr:=HR.out;simp at hr;subst hr;obtain⟨a1,c1,e1,hi1⟩:=Xl (xs:=[ya]++[yb]) (by simpa using HO9.out);exact⟨a1,c1,congrArg Ending.returned e1,HB9.out,hi1.mono oM (Nat.le_refl _)⟩
theorem Zdk(pa:Option Addr)(n pc:Nat)(ps:List Ph)(v1 v2 v3 v4 v5:Value)(L B:Nat)(w:World)(hp:Hid (Yp w L B pa ps))(hx:Hid (n=ps.length))(hn:n<=4000)(hB:B<=w.heap.size) :
 Calls Tryz.prog 125 #[.agg #[.slice pa n pc,v1,v2,v3,v4,v5]] w fun e w'=>∃a c,e=.returned (.slice a (ps.map Ph.dst).length c)/\Below w.heap.size w w'/\Xf w' w.heap.size w'.heap.size a (ps.map Ph.dst):=by
 obtain⟨i0,hi0,hz0,hz1,hz2⟩:=info_parts Tryz.info2'
 go_enter Tryz.func125,Tryz.ntmps125
 go_wp2
 go_loopw [3,4] (fun u i wr=>∃k:Nat,k<=n/\i=.int .i64 k/\Hid (Below w.heap.size w wr)/\w.heap.size<wr.heap.size/\wr.cell? ⟨w.heap.size,0,none⟩=some (.slice pa n pc)/\Hid (wr.ownsRow (w.heap.size+1) 2 1 u k (((ps.map Ph.dst).take k).map (Value.int .i64)))) (fun _ i _=>n-(intOf i).toNat)
 case atStart=>exact⟨0,Nat.zero_le _,rfl,Xa (Xb (Xb (Below.refl _ _) _) _),by simp;omega,sP,Xa (JZ _ _)⟩
 case round =>
  obtain⟨k,hk,rfl,HB,hsz,hcell,HO⟩:=hrel;by_cases hlt:k<n
  ·have hkx:k<ps.length:=by have:=hx.out;omega
   obtain⟨b,o,rfl,⟨_,hbB⟩,ha,hc,h1,h2,_⟩:=(hp.keep (HB.mono hB)) k hkx;have HN:Hid ((ps.map Ph.dst).take (k+1)=(ps.map Ph.dst).take k++[ps[k].dst]):=Xa (by rw[Xq _ _ (by simpa using hkx)];simp);generalize ps[k]=X at *;generalize (ps.map Ph.dst).take k=dk at *
   go_wp2_with (at_builtin;refine wpList_append_own _ rfl _ _ 25 rfl (w.heap.size+1) 2 i0 (.int .i64 0) 1 8 Tryz.underlying25 hi0 hz0 hz1 hz2 rfl dC _ _ _ rfl (HO.alloc _) ⟨wr.heap.size,0,none⟩ 1 1 [.int .i64 X.dst] rfl rfl ?c1 ?c2 ?c3 ?c4 ?c5 ?_)
   case c1 =>
    intro j u hj
    match j,hj with
    | 0,hj=>simp at hj;subst hj;simp[Addr.add]
   case c2=>intro u hu;simp at hu;subst hu;rfl
   case c3=>unfold maxLen;omega
   case c4=>omega
   case c5=>simp;omega
   intro u1 w1 hown1 hgrow1 _;have HO1:=Xa hown1;clear hown1;go_wp2;have hb2:Below w.heap.size w w1:=Xr (Xb HB.out _) hgrow1 (HO.alloc _) oM (by simp;omega);have hbk:=YD hgrow1 (HO.alloc _) (b:=w.heap.size) oM (by simp;omega);have hsz1:=hgrow1.size;simp at hsz1;exact⟨⟨k+1,oM,gM,Xa hb2,oM,(Xc hbk).trans ((World.cell?_alloc_lt wr _ ⟨w.heap.size,0,none⟩ hsz).trans hcell),Xa (by rw[HN.out,Yo];exact HO1.out)⟩,by simp[intOf];omega⟩
  ·go_wp2
   go_ret
   have hown:=HO.out;rw[List.take_of_length_le (by have:=hx.out;simp;omega)]at hown;obtain⟨a1,c1,rfl,hi1⟩:=Xl hown;exact⟨_,_,rfl,HB.out,hi1.mono oM (Nat.le_refl _)⟩
def edP(ps:List Int)(hs:List Ph)(p:Int)(i:Nat):List Int:=(List.range i).flatMap fun i=>if ps.getD i 0=p then hs.map (fun h=>h.args.getD i 0)else []
theorem Zcz(ps:List Int)(hs:List Ph)(p:Int)(i:Nat):edP ps hs p (i+1)=edP ps hs p i++(if ps.getD i 0=p then hs.map (fun h=>h.args.getD i 0)else []):=by
 unfold edP;rw[List.range_succ,List.flatMap_append];simp
theorem ZbP(ps:List Int)(hs:List Ph)(p:Int):∀i,(edP ps hs p i).length<=i*hs.length
 | 0=>by simp[edP]
 | i+1=>by
  have:=ZbP ps hs p i;rw[Zcz,List.length_append,Nat.succ_mul];split
  ·rw[List.length_map];omega
  ·simp;omega
theorem Uu(V:Nat)(a:Option Addr)(n c:Nat)(p:Int)(t:Nat)(xs:List Xh)(L B:Nat)(w:World)(ha:Hid (Xk w L B a xs))(hx:Hid (n=xs.length))(hB:B<=w.heap.size)(ho:Hid (Jd V xs))(htn:t<n) :
 Calls Tryz.prog 34 #[.agg #[.int .i64 (V:Int),.slice a n c],.int .i64 p,.int .i64 (t:Int)] w fun e w'=>∃ad c',e=.returned (.slice (some ad) (edgeU xs p (t:Int)).length c')/\Below w.heap.size w w'/\Xf w' w.heap.size w'.heap.size (some ad) (edgeU xs p (t:Int)):=by
 obtain⟨i0,hi0,hz0,hz1,hz2⟩:=info_parts Tryz.info2';have hn:n<=1000:=by have:=hx.out;have:=ho.okf.n2;omega
 have htx:t<xs.length:=by have:=hx.out;omega
 obtain⟨b,o,rfl,⟨hbL,hbB⟩,hc⟩:=ha.out t htx;obtain⟨pa,pc,ia,ic,q0,_,_,hph,_⟩:=hc;have HPH:=Xa hph;have HPA:=Xa (ho.pha t htx);have hlp:=(ho.lens _ (List.getElem_mem htx)).2;have HED:Hid (edgeU xs p (t:Int)=if xs[t].phis=[]then []else edP (predsFrom xs 0 (t:Int)) xs[t].phis p (predsFrom xs 0 (t:Int)).length):=Xa (by unfold edgeU edP;rw[Int.toNat_natCast,List.getElem?_eq_getElem htx]);have HPR:=Xa (fun W (hW:Below w.heap.size w W)=>Vt (V:Int) (some ⟨b,o,none⟩) n c (t:Int) xs L B W (Xa (ha.keep (hW.mono hB))) hx oM (by have:=hW.size;omega));have hpl:=Yl (t:Int) xs 0;have hpl2:(predsFrom xs 0 (t:Int)).length<=1000:=by have:=hx.out;omega
 generalize predsFrom xs 0 (t:Int)=pr at *;generalize edgeU xs p (t:Int)=ed at *;generalize xs[t].phis=ps at *;clear hph;have hbw:b<w.heap.size:=oM;have qa:=fun o1 o2=>((Xb (Xb (Below.refl w.heap.size w) o1) o2).cell (p:=⟨b,o+t*6,none⟩) hbw).trans q0
 clear q0
 go_enter Tryz.func34,Tryz.ntmps34
 by_cases h0:ps.length=0
 ·have hpe:ps=[]:=List.eq_nil_of_length_eq_zero h0
  have he:ed=[]:=by rw[HED.out,if_pos hpe]
  have HBW:Hid (Below w.heap.size w ((w.alloc (.cells #[.int .i64 (V:Int),.slice (some ⟨b,o,none⟩) n c] 33)).alloc (.cells #[] 2))):=Xa (Xb (Xb (Below.refl _ _) _) _);simp only[h0]at qa;clear hpl2 hlp hpl;go_wp2
  go_ret
  rw[he];exact⟨_,_,rfl,HBW.out,fun i hi=>absurd hi sP⟩
 ·have h0':((ps.length:Int)==0)=false:=by simp[h0]
  have hpe:ps≠[]:=fun e=>h0 (by rw[e];rfl)
  have HED2:Hid (ed=edP pr ps p pr.length):=Xa (by rw[HED.out,if_neg hpe]);clear HED hpe;have HOE:=Xa (JZ w (.cells #[.int .i64 (V:Int),.slice (some ⟨b,o,none⟩) n c] 33));have HB0:Hid (Below w.heap.size w ((w.alloc (.cells #[.int .i64 (V:Int),.slice (some ⟨b,o,none⟩) n c] 33)).alloc (.cells #[] 2))):=Xa (Xb (Xb (Below.refl _ _) _) _);have hz0':((w.alloc (.cells #[.int .i64 (V:Int),.slice (some ⟨b,o,none⟩) n c] 33)).alloc (.cells #[] 2)).heap.size=w.heap.size+2:=sP;have hf0:((w.alloc (.cells #[.int .i64 (V:Int),.slice (some ⟨b,o,none⟩) n c] 33)).alloc (.cells #[] 2)).cell? ⟨w.heap.size,1,none⟩=some (.slice (some ⟨b,o,none⟩) n c):=sP
  go_wp2_with fail
  refine(HPR.out _ HB0.out).mono ?_;rintro e w1 ⟨a1,c1,rfl,hb1,hi1⟩;rw[hz0']at hb1 hi1;have hz1':=hb1.size;rw[hz0']at hz1';have HB1:Hid (Below w.heap.size w w1):=Xa (HB0.trans (hb1.mono oM));have hf1:=(Xu hb1 oM).trans hf0;have HI1:=Xa hi1;have HG0:Hid (Tb w1 (w.heap.size+1) w1 (.slice (some ⟨w.heap.size+1,0,none⟩) 0 0) []):=Xa (Tb.start (Y6 HOE.out (fun g e=>by
   have e':w.heap.size+1=g:=by simpa [Value.ownBlock]using e
   subst e';exact hb1.block _ oM)) (fun g e=>by
   have e':w.heap.size+1=g:=by simpa [Value.ownBlock]using e
   exact e'.symm))
  have HQ0:=(HB1.cell (p:=⟨b,o+t*6,none⟩) hbw).trans (by have:=qa (.cells #[] 0) (.cells #[] 0);exact((Xb (Xb (Below.refl w.heap.size w) _) _).cell (p:=⟨b,o+t*6,none⟩) hbw).symm.trans this);have HQQ:=Xa HQ0;have HF1:=Xa hf1;have HPHW:Hid (Yp w1 L B pa ps):=Xa (HPH.keep (HB1.mono hB));have HED3:Hid (ed=edP pr ps p pr.length):=HED2;obtain⟨np,hnp⟩:∃m,m=pr.length:=⟨_,rfl⟩;rw[<-hnp]at hpl2;have HNP:=Xa hnp;obtain⟨nh,hnh⟩:∃m,m=ps.length:=⟨_,rfl⟩;rw[<-hnh]at HQQ hlp h0';have HNH:=Xa hnh;clear hb1 hi1 hf0 hf1 hz0' HQ0 qa HOE HB0 HPR HED2 hpl;rw[<-hnp];clear hnp hnh
  go_wp2_with fail
  go_loopw [7,9] (fun u i wr=>∃k:Nat,k<=np/\i=.int .i64 k/\Hid (Tb w1 (w.heap.size+1) wr u (edP pr ps p k))/\Hid (u≠.slice none 0 0)) (fun _ i _=>np-(intOf i).toNat)
  case atStart=>exact⟨0,Nat.zero_le _,rfl,HG0,Xa sP⟩
  case round =>
   clear HG0;obtain⟨k,hk,rfl,HG,HU⟩:=hrel;by_cases hlt:k<np
   ·have hkp:k<pr.length:=by rw[<-HNP.out];exact hlt
    obtain⟨b1,o1,rfl,⟨hb1l,hb1u⟩,hc1⟩:=HI1.out k hkp;have k1:=HG.cell oM hc1;have kf:=HG.cell oM HF1.out;have kq:=HG.cell oM HQQ.out;have HSU:Hid (edP pr ps p (k+1)=edP pr ps p k++(if pr[k]=p then ps.map (fun h=>h.args.getD k 0)else [])):=Xa (by rw[Zcz];congr 1;rw[List.getD_eq_getElem?_getD,List.getElem?_eq_getElem hkp];rfl);have HLE:Hid ((edP pr ps p k).length<=4000000):=Xa (Nat.le_trans (ZbP pr ps p k) (Nat.le_trans (Nat.mul_le_mul (show k<=1000 by omega) (show ps.length<=4000 by rw[<-HNH.out];exact hlp)) dC));generalize pr[k]=pk at *;clear hc1;by_cases hpk:pk=p
    ·subst hpk
     have HS2:Hid (edP pr ps pk (k+1)=edP pr ps pk k++ps.map (fun h=>h.args.getD k 0)):=Xa (by have h:=HSU.out;rw[if_pos rfl]at h;exact h);have hbq:(pk==pk)=true:=sP;generalize edP pr ps pk k=ek at *;clear HSU
     go_wp2_with fail
     clear k1 kf kq;generalize wr=wo at *
     go_loopw [7,10] (fun u j wr=>∃m:Nat,m<=nh/\j=.int .i64 m/\Hid (Tb w1 (w.heap.size+1) wr u (ek++(ps.map (fun h=>h.args.getD k 0)).take m))/\Hid (u≠.slice none 0 0)) (fun _ i _=>nh-(intOf i).toNat)
     case atStart=>exact⟨0,Nat.zero_le _,rfl,Xa (by simpa using HG.out),HU⟩
     case round =>
      obtain⟨m,hm,rfl,HG2,HU2⟩:=hrel;have kf:=HG2.cell oM HF1.out;have kq:=HG2.cell oM HQQ.out;by_cases hlt2:m<nh
      ·have hmp:m<ps.length:=by rw[<-HNH.out];exact hlt2
       obtain⟨b2,o2,rfl,⟨hb2l,hb2u⟩,aa,ac,g0,g1,gi⟩:=HPHW.out m hmp;have hal:=(HPA.out ps[m] (List.getElem_mem hmp)).1;have hka:k<ps[m].args.length:=oM;obtain⟨b3,o3,rfl,⟨hb3l,hb3u⟩,g3⟩:=gi k hka;have m1:=HG2.cell oM g1;have m3:=HG2.cell oM g3;have HTK:Hid ((ps.map (fun h=>h.args.getD k 0)).take (m+1)=(ps.map (fun h=>h.args.getD k 0)).take m++[ps[m].args[k]]):=Xa (by rw[Xq _ _ (by simpa using hmp)];simp[hka]);have HLL:Hid ((ek++(ps.map (fun h=>h.args.getD k 0)).take m).length<=4004000):=Xa (by have:=HLE.out;rw[List.length_append,List.length_take];omega);have hkA:(k:Int)<(ps[m].args.length:Int):=oM;generalize (ps.map (fun h=>h.args.getD k 0)).take m=tm at *;generalize ps[m].args[k]=av at *;generalize ps[m].args.length=la at *;generalize hel:ek++tm=el at *;have HEL:=Xa hel;clear g0 g1 g3 gi hal hel
       go_wp2_with (at_builtin;refine wpList_append_own_at _ rfl _ _ 25 rfl (w.heap.size+1) 2 i0 (.int .i64 0) 1 8 Tryz.underlying25 hi0 hz0 hz1 hz2 rfl dC _ _ _ rfl (HG2.own.alloc _) ⟨wr.heap.size,0,none⟩ 1 1 [.int .i64 av] rfl rfl ?c1 ?c2 ?c3 ?c4 ?c5 ?_)
       case c1 =>
        intro j u hj
        match j,hj with
        | 0,hj=>simp at hj;subst hj;simp[Addr.add]
       case c2=>intro u hu;simp at hu;subst hu;rfl
       case c3=>have:=HLL.out;unfold maxLen;omega
       case c4=>have:=HLL.out;omega
       case c5=>have:=HG2.size;simp;omega
       intro u1 w2 hown1 hgrow1 hne1 hat1;have HG3:=Xa ((HG2.alloc _).push (x:=av) hgrow1 hown1 (by rw[World.size_alloc];exact hat1));have HU3:Hid (u1≠.slice none 0 0):=Xa hne1;clear hown1 hgrow1 hat1 hne1 kf kq m1 m3
       go_wp2_with fail
       exact⟨⟨m+1,oM,gM,Xa (by rw[HTK.out,<-List.append_assoc,HEL.out];exact HG3.out),HU3⟩,by simp[intOf];omega⟩
      ·have hme:nh<=m:=oM
       go_wp2_with fail
       exact⟨⟨k+1,oM,gM,Xa (by rw[HS2.out];have h:=HG2.out;rw[List.take_of_length_le (by rw[List.length_map,<-HNH.out];exact hme)]at h;exact h),HU2⟩,by simp[intOf];omega⟩
    ·have HS2:Hid (edP pr ps p (k+1)=edP pr ps p k):=Xa (by have h:=HSU.out;rw[if_neg hpk,List.append_nil]at h;exact h)
     have hbq:(pk==p)=false:=by simp[hpk]
     clear HSU hpk
     go_wp2_with fail
     exact⟨⟨k+1,oM,gM,Xa (by rw[HS2.out];exact HG.out),HU⟩,by simp[intOf];omega⟩
   ·have hke:k=pr.length:=by have:=HNP.out;omega
    go_wp2_with fail
    go_ret
    have hown:=HG.own;rw[hke,<-HED3.out]at hown;obtain⟨ad,cc,e2,hi⟩:=Xl hown;cases ad with
    | none =>
     exfalso;rcases XU hown with⟨h1,_,_⟩ | h1
     ·exact HU.out h1
     ·obtain⟨g,cap,h1,_⟩:=h1
      rw[h1]at e2;injection e2 with e2;cases e2
    | some ad =>
     refine⟨ad,cc,congrArg Ending.returned e2,⟨HG.os.trans HB1.os,HG.tape.trans HB1.tape,HG.output.trans HB1.output,Nat.le_trans HB1.size HG.size,fun q hq=>(HG.fr q oM oM).trans (HB1.block q hq)⟩,hi.mono oM (Nat.le_refl _)⟩
end Go.Proofs.YtlmgmkmomaileaaGreatDoor
namespace Go.Proofs.YtlmgmkmomaileaaGreatDoor
open Go.RowKit
theorem Yf{P:Program}{ops:Array Oper}{w:World}{o:Oper}{a:Act}{K:Act->World->Prop}{Q:Exit->Act->World->Prop}{E:Prop}(hgd:o.guard=none)(s x:Operand)(t:TypeId)
 (ho:o.op=.call { callee:=.builtin .append,args:=#[s,x],argTypes:=#[t,t] })
 (base:Nat) (e:TypeId) (i:TypeInfo) (z:Value) (size bytes:Nat) (ht:P.underlying t=some (.slice e)) (hi:P.info? e=some i) (hz:i.zero=some z)
 (hsize:i.size=size) (hby:i.bytes=bytes) (hzs:z.cells.size=size) (hsz:0<size)
 (v:Value) (n:Nat) (xs:List Value) (hs:a.eval s=v) (hown:w.ownsRow base e size v n xs)
 (ad:Addr) (m c:Nat) (news:List Value) (hx:a.eval x=.slice (some ad) m c) (hl:news.length=m*size) (hnews:∀j u,news[j]?=some u->w.cell? (ad.add j)=some u) (h1:∀u∈news,u.oneCell'=true)
 (h63:n+m<=maxLen) (hbytes:(n+m)*bytes<=140737488355328) (hbase:base<=w.heap.size)
 (h:∀v' w',w'.ownsRow base e size v' (n+m) (xs++news)->w.grownBy w' v.ownBlock->(v'=.slice none 0 0↔v=.slice none 0 0/\m=0)->(v'.ownBlock=v.ownBlock\/v'.ownBlock=some w.heap.size)->K (a.put o.dst v') w') :
 if Region.wanted o (yielded ops a.tmps)=true then Oper.wp P o a w K Q else E:=by
 have hw:Region.wanted o (yielded ops a.tmps)=true:=by simp[Region.wanted,hgd]
 rw[if_pos hw];obtain⟨v',w',hr,h2,h3,h4,h5⟩:=run_append_own_at (P:=P) w base t o.type e i z size bytes ht hi hz hsize hby hzs hsz v n xs hown ad m c news hl hnews h1 h63 hbytes hbase;unfold Oper.wp execOp;simp only[ho,resolve,invoke,builtin,Sem.run_bind,Sem.run_pure,Result.andThen_ok,List.map_toArray,List.map_cons,List.map_nil,hs,hx,hr];exact h v' w' h2 h3 h4 h5
end Go.Proofs.YtlmgmkmomaileaaGreatDoor
namespace Go.Proofs.YtlmgmkmomaileaaGreatDoor
set_option maxHeartbeats 4000000
set_option maxRecDepth 100000
open Go.RowKit
theorem ZbV{V:Nat}{xs:List Xh}(ho:Jd V xs){p t:Nat}(ht:t<xs.length)(hp:(p:Int)∈predsFrom xs 0 (t:Int)):∀q∈takesR (ZX (predsFrom xs 0 (t:Int)) (p:Int)) (KH xs (t:Int)),(0<=q.1/\q.1<V)/\(0<=q.2/\q.2<V):=by
 intro q hq;rw[Uo xs ht]at hq;unfold takesR at hq;obtain⟨h,hh,rfl⟩:=List.mem_map.1 hq;have h1:=ho.pha t ht h hh;have hi:=VE hp;refine⟨ho.phd _ (List.getElem_mem ht) h hh,?_⟩;have hl:ZX (predsFrom xs 0 (t:Int)) (p:Int)<h.args.length:=by rw[h1.1];exact hi
 rw[List.getD_eq_getElem?_getD,List.getElem?_eq_getElem hl];exact h1.2 _ (List.getElem_mem hl)
theorem TR(V:Nat)(a:Option Addr)(n c:Nat)(xs:List Xh)(L B:Nat)(ac:Option Addr)(nc cc:Nat)(cs:List Int)(Lc Bc:Nat)(p t:Nat)(w:World)(ha:Hid (Xk w L B a xs))(hx:Hid (n=xs.length))(hB:B<=w.heap.size)(ho:Hid (Jd V xs))(hph:Hid (∀x∈xs,x.phis.length<=1048576))(hc:Hid (Xf w Lc Bc ac cs))(hcx:Hid (nc=cs.length))(hcV:Hid (nc=V))(hBc:Bc<=w.heap.size)(htn:t<n)(hp:Hid ((p:Int)∈predsFrom xs 0 (t:Int))) :
 Calls Tryz.prog 19 #[.agg #[.int .i64 (V:Int),.slice a n c],.slice ac nc cc,.int .i64 (p:Int),.int .i64 (t:Int)] w fun e w'=>∃v,e=.returned v/\v≠.slice none 0 0/\Below w.heap.size w w'/\w'.ownsRow w.heap.size 54 5 v (Kb cs xs p (t:Int)).length (Y1 (Kb cs xs p (t:Int))):=by
 obtain⟨i0,hi0,hz0,hz1,hz2⟩:=info_parts Tryz.infoMv;have htx:t<xs.length:=by have:=hx.out;omega
 have HTK:=Xa (ZbV ho.out htx hp.out);have HEU:=Xa (ZcG xs htx hp.out);have HMV:Hid (KA cs xs p (t:Int)=(takesR (ZX (predsFrom xs 0 (t:Int)) (p:Int)) (KH xs (t:Int))).map fun q=>⟨lcN cs q.1,lcN cs q.2⟩):=Xa rfl;have HTP:Hid (takesR (ZX (predsFrom xs 0 (t:Int)) (p:Int)) (KH xs (t:Int))=takesR (ZX (predsFrom xs 0 (t:Int)) (p:Int)) xs[t].phis):=Xa (by rw[Uo xs htx]);have HCE:Hid (Kb cs xs p (t:Int)=JA (KA cs xs p (t:Int))):=Xa rfl;have HPL:=Xa (hph.out _ (List.getElem_mem htx))
 go_enter Tryz.func19,Tryz.ntmps19
 go_wp2_with fail
 have HA:=Xa (ha.keep (Below.alloc (Below.refl B w) hB (.cells #[.int .i64 (V:Int),.slice a n c] 33)));refine(Uu V a n c (p:Int) t xs L B _ HA hx (by simp;omega) ho htn).mono ?_;rintro e w1 ⟨ad,c',rfl,hb1,hat⟩;rw[World.size_alloc]at hb1 hat;have HB1:Hid (Below w.heap.size w w1):=Xa (Xd (Xb (Below.refl _ _) _) (by rw[World.size_alloc];exact hb1));have HF1:Hid (Bx w1 w.heap.size #[.int .i64 (V:Int),.slice a n c] 33):=Xa ((Bx.new w _ _).keep (hb1.block _ oM));obtain⟨T,hT⟩:∃T,T=takesR (ZX (predsFrom xs 0 (t:Int)) (p:Int)) (KH xs (t:Int)):=⟨_,rfl⟩;rw[<-hT]at HTK HEU HMV HTP;rw[HEU.out]at hat |-;rw[List.length_map]at |-;obtain⟨m,hm⟩:∃m,m=T.length:=⟨_,rfl⟩;have hm1:m<=1048576:=by rw[hm,HTP.out];have:=HPL.out;simpa [takesR]using this
 rw[<-hm];have HM:=Xa hm;have HAT:=Xa hat;have hsw:w.heap.size<w1.heap.size:=HF1.lt;clear hat hT hm hb1 HA HEU HPL;go_wp2
 go_loopw [10,11] (fun v i wr=>∃j:Nat,j<=m/\i=.int .i64 j/\Hid (Below w1.heap.size w1 wr)/\Hid (wr.ownsRow w1.heap.size 85 2 v ((KA cs xs p (t:Int)).take j).length (Tz ((KA cs xs p (t:Int)).take j)))/\Hid (v≠.slice none 0 0)) (fun _ i _=>m-(intOf i).toNat)
 case atStart=>exact⟨0,Nat.zero_le _,rfl,Xa (Xb (Below.refl _ _) _),Xa (by
  have:=World.ownsRow_lit (base:=w1.heap.size) (e:=85) (size:=2) w1 #[] 0 (Nat.le_refl _) sP rfl;exact this),Xa sP⟩
 case round =>
  obtain⟨j,hj,rfl,HB,HO,HV⟩:=hrel;have HML:Hid ((KA cs xs p (t:Int)).length=m):=Xa (by rw[HMV.out,List.length_map];exact HM.symm);by_cases hlt:j<m
  ·have hjT:j<T.length:=by have:=HM.out;omega
   have htk:=HTK.out _ (List.getElem_mem hjT);have HBW:=Xa (Xd HB1.out HB.out);obtain⟨b,o,rfl,⟨_,hbB⟩,hcb⟩:=ha.keep (HBW.mono hB) t htx;obtain⟨pa,pc,ia,ic,e0,_,_,hphs,_⟩:=hcb;have hjp:j<xs[t].phis.length:=by have:=HTP.out;rw[this]at hjT;simpa [takesR]using hjT
   obtain⟨pb,po,rfl,⟨_,hpB⟩,hcp⟩:=hphs j hjp;obtain⟨pq,pr,h0,hq1,hq2⟩:=hcp;clear hq1 hq2;have hd0:xs[t].phis[j].dst=T[j].1:=by simp[HTP.out,takesR]
   rw[hd0]at h0;obtain⟨ab,ao,hae,⟨_,haB⟩,hca⟩:=HAT.out j (by simpa using hjT);injection hae with hae;subst hae;rw[List.getElem_map]at hca;have HMJ:Hid ((KA cs xs p (t:Int)).take (j+1)=(KA cs xs p (t:Int)).take j++[⟨lcN cs T[j].1,lcN cs T[j].2⟩]):=Xa (by
    rw[List.take_succ_eq_append_getElem (by have:=HML.out;omega)];congr 1;simp[HMV.out])
   have HTL:Hid (((KA cs xs p (t:Int)).take j).length=j):=Xa (by rw[List.length_take,HML.out];omega);obtain⟨cb,co,k1,hv1,hk1,rfl,hcb1,hcc1⟩:=Ja (hc.keep (HBW.mono hBc)) htk.1.1 (by have:=hcx.out;have:=hcV.out;omega);obtain⟨cb',co',k2,hv2,hk2,hce,hcb2,hcc2⟩:=Ja (hc.keep (HBW.mono hBc)) htk.2.1 (by have:=hcx.out;have:=hcV.out;omega);injection hce with hce;injection hce with hc1 hc2;subst hc1 hc2;rw[hv1]at h0 hcc1 HMJ;rw[hv2]at hca hcc2 HMJ;have hk1I:(k1:Int)<(nc:Int):=by have:=hcx.out;omega
   have hk2I:(k2:Int)<(nc:Int):=by have:=hcx.out;omega
   have hpl:(j:Int)<((xs[t].phis.length:Nat):Int):=oM;have hjm:(j:Int)<(m:Int):=oM;have htI:(t:Int)<(n:Int):=oM;have ca:=(Xu HB.out oM).trans hca;have f1:wr.cell? ⟨w.heap.size,1,none⟩=some (.slice (some ⟨b,o,none⟩) n c):=(HB.cell (p:=⟨w.heap.size,1,none⟩) hsw).trans (Bx.cell HF1.out rfl);have hbr:w1.heap.size<=wr.heap.size:=HB.size;have hwr:w.heap.size<wr.heap.size:=oM;have hb0:b<w1.heap.size:=oM;have hp0:pb<w1.heap.size:=oM;have hc0:cb<w1.heap.size:=oM;obtain⟨g,cg,hvv⟩:∃g cg,u10=.slice g ((KA cs xs p (t:Int)).take j).length cg:=by
    rcases XU HO.out with⟨e,h,_⟩ | ⟨g,cg,e,_⟩
    ·exact absurd e HV.out
    ·exact⟨_,_,e⟩
   rw[HTL.out]at hvv;subst hvv;clear hd0 hjp hphs hca;generalize xs[t].phis.length=pl at *;generalize lcN cs (k1:Int)=z1 at *;generalize lcN cs (k2:Int)=z2 at *;clear hv1 hv2 htk;go_wp2;refine Z1 (fun w'=>w'.cell? ⟨w.heap.size,1,none⟩=some (.slice (some ⟨b,o,none⟩) n c)/\w'.cell? ⟨b,o+t*6,none⟩=some (.slice (some ⟨pb,po,none⟩) pl pc)/\w'.cell? ⟨pb,po+j*2,none⟩=some (.int .i64 (k1:Int))/\w'.cell? ⟨cb,co+k1,none⟩=some (.int .i64 z1)/\w'.cell? ⟨ab,ao+j,none⟩=some (.int .i64 (k2:Int))/\w'.cell? ⟨cb,co+k2,none⟩=some (.int .i64 z2)) (fun hHeld=>?_);refine Xi 0 ?_;refine Xi 1 ?_;refine Xi 2 ?_;refine Xi 3 ?_;refine Xi 4 ?_;refine Xi 5 ?_;refine Xi 6 ?_;refine Xi 7 ?_;refine Xi 8 ?_;refine Xi 9 ?_;refine Xi 10 ?_;refine Xi 11 ?_;refine Xi 12 ?_;refine Xi 13 ?_;refine Xi 14 ?_;refine Xi 15 ?_;refine Xi 16 ?_;refine Xi 17 ?_;refine Xi 18 ?_;refine Xi 19 ?_;refine Xi 20 ?_;refine Xi 21 ?_;refine Xt 22 (fun K hK=>?_);go_simp;refine hK _ _ kP (fun hHeld=>?_);clear hK;refine Xt 23 (fun K hK=>?_);refine Yf rfl _ _ 81 rfl w1.heap.size 85 i0 (.agg #[.int .i64 0,.int .i64 0]) 2 16 Tryz.underlying81 hi0 hz0 hz1 hz2 rfl dC (.slice g j cg) j (Tz ((KA cs xs p (t:Int)).take j)) rfl ?s1 ⟨wr.heap.size,0,none⟩ 1 1 [.int .i64 z1,.int .i64 z2] rfl rfl ?s2 ?s3 ?s4 ?s5 ?s6 ?_
   case s1=>rw[<-HTL.out];exact(World.ownsRow.alloc (w:=wr.drew) (by rw[HTL.out];have:=HO.out;rw[HTL.out]at this;exact this) _)
   case s2=>exact Tg _ _ _ _
   case s3=>intro u hu;simp at hu;rcases hu with rfl | rfl<;>rfl
   case s4=>unfold maxLen;omega
   case s5=>omega
   case s6=>simp;omega
   intro v8 w8 hown8 hg8 hne8 hat8;have HOA:Hid ((wr.drew.alloc (.cells #[.int .i64 z1,.int .i64 z2] 85)).ownsRow w1.heap.size 85 2 (.slice g j cg) j (Tz ((KA cs xs p (t:Int)).take j))):=Xa (World.ownsRow.alloc (w:=wr.drew) (by have:=HO.out;rw[HTL.out]at this;exact this) _);have HB8:Hid (Below w1.heap.size w1 w8):=Xa (Xr (Below.alloc HB.drew (show w1.heap.size<=wr.heap.size from hbr) _) hg8 HOA.out (Nat.le_refl _) (by simp;omega));have HO8:Hid (w8.ownsRow w1.heap.size 85 2 v8 ((KA cs xs p (t:Int)).take (j+1)).length (Tz ((KA cs xs p (t:Int)).take (j+1)))):=Xa (by
    rw[HMJ.out,Tj,List.length_append,HTL.out];exact hown8)
   have HV8:Hid (v8≠.slice none 0 0):=Xa (fun e=>by have:=(hne8.1 e).2;omega);have c8:∀q o,q<w1.heap.size->w8.cell? ⟨q,o,none⟩=wr.cell? ⟨q,o,none⟩:=fun q o hq=>(HB8.cell (p:=⟨q,o,none⟩) hq).trans (HB.cell (p:=⟨q,o,none⟩) hq).symm
   refine hK _ _ ⟨(c8 _ _ hsw).trans f1,(c8 _ _ hb0).trans e0,(c8 _ _ hp0).trans h0,(c8 _ _ hc0).trans hcc1,(c8 _ _ haB).trans ca,(c8 _ _ hc0).trans hcc2⟩ (fun hHeld=>?_);clear hK hown8 hg8 hne8 hat8 c8 HOA
   try simp only[Act.put,xA,xB,xC,xD,xE,xF]
   refine Xi 24 ?_;refine YA ?_;clear hHeld;go_wp2;exact⟨⟨j+1,oM,gM,HB8,HO8,HV8⟩,by simp[intOf];omega⟩
  ·have HE:Hid ((KA cs xs p (t:Int)).take j=KA cs xs p (t:Int)):=Xa (List.take_of_length_le (by rw[HML.out];omega))
   have HO9:=HO;rw[HE.out]at HO9;obtain⟨aq,cq,hvv,_,_,hmv⟩:=Z0 HO9.out;rw[HML.out]at hvv;have hmj:j=m:=oM;have HMV2:=Xa hmv;subst hvv;have hjI:¬(j:Int)<(m:Int):=oM;clear hmv HO
   go_wp2_with fail
   refine(ZhW aq m cq (KA cs xs p (t:Int)) w1.heap.size wr.heap.size wr HMV2 (Xa HML.symm) hm1 (Nat.le_refl _)).mono ?_;rintro e w5 ⟨v5,rfl,hv5,hb5,ho5⟩;have HB5:=Xa (Xd (Xd HB1.out HB.out) hb5);have HO5:Hid (w5.ownsRow w.heap.size 54 5 v5 (Kb cs xs p (t:Int)).length (Y1 (Kb cs xs p (t:Int)))):=Xa (by
    rw[HCE.out];obtain⟨hl,h | ⟨g,cap,cur,e,hg,hh,hc⟩⟩:=ho5
    ·exact⟨hl,Or.inl h⟩
    ·have:=HB.size
     exact⟨hl,Or.inr ⟨g,cap,cur,e,oM,hh,hc⟩⟩)
   have HV5:=Xa hv5;clear hb5 ho5 hv5;go_wp2
   go_ret
   exact⟨_,rfl,HV5.out,HB5.out,HO5.out⟩
end Go.Proofs.YtlmgmkmomaileaaGreatDoor
