import Derived.Test.YtlmgmkmomaileaaGreatDoorSQ6
import Derived.Shelf.SlIterI.Nil
import Derived.Shelf.SortM.Plain
import Derived.Shelf.SortM.SortNone
import Derived.Ground.GgzProg
import Derived.Ground.SlgmProg
namespace Go.Proofs.YtlmgmkmomaileaaGreatDoor
set_option maxHeartbeats 4000000
set_option maxRecDepth 100000
open Go.RowKit Go.Maps
theorem Tryz.tMap:Tryz.prog.underlying 207=some (.map 2 54):=Tryz.underlying207
theorem Zal(a:Option Addr)(n c:Nat)(xs:List Mv)(L B:Nat)(w:World)(ha:Hid (Jw w L B a xs))(hx:Hid (n=xs.length))(hn:n<=1048576)(hB:B<=w.heap.size)(hr:Hid (∀m∈xs,-9223372036854775808<=m.to/\m.to<=9223372036854775807)) :
 Calls Tryz.prog 119 #[.slice a n c] w fun e w'=>Below w.heap.size w w'/\e=.returned (.tuple #[.map (some w.heap.size),.bool (Yy xs)])/\(Yy xs=true->∃D,w'.ownsMap Tryz.prog 2 YX w.heap.size 64 D/\Ze D (startM xs)):=by
 have hmm:=@run_makeMap Tryz.prog;by_cases hbig:64<n
 ·have HG:Hid (Yy xs=false):=Xa (by unfold Yy;have:=hx.out;simp;intro h;omega)
  go_enter Tryz.func119,Tryz.ntmps119
  go_wp2;refine bodyPost_ret (v:=.tuple #[.map (some w.heap.size),.bool false]) (by simp[results,Tryz.results119,go_sem, *]) rfl ?_;exact⟨Xb (Below.refl _ _) _,by rw[HG.out],fun h=>by rw[HG.out]at h;cases h⟩
 have HG:Hid (Yy xs=JY [] xs):=Xa (by unfold Yy;have:=hx.out;simp;omega);have hn64:n<=64:=oM;clear hbig
 go_enter Tryz.func119,Tryz.ntmps119
 go_wp2
 go_loopw [16] (fun u wr=>∃(q:Nat)(D:DataW Unit),q<=n/\u=.int .i64 q/\Hid (Below w.heap.size w wr)/\Hid (wr.ownsMap Tryz.prog 2 YX w.heap.size q D)/\Hid (Ze D (xs.take q))/\Hid (KY (xs.take q))/\Hid (Yy xs=JY (xs.take q) (xs.drop q))) (fun u _=>n-(RowKit.intOf u).toNat)
 case atStart=>exact⟨0,.map [],Nat.zero_le _,rfl,Xa (Xb (Below.refl _ _) _),Xa (World.ownsMap_made _ _ _ _),Xa (by rw[List.take_zero];exact Ze.nil),Xa (by rw[List.take_zero];exact⟨by simp[Yg],sP⟩),Xa (by rw[HG.out];rfl)⟩
 case round =>
  obtain⟨q,D,hq,rfl,HB,HO,HM,HGL,HJ⟩:=hrel;have hwz:=HB.size;by_cases hlt:q<n
  ·have hqx:q<xs.length:=by have:=hx.out;omega
   obtain⟨b,o,rfl,hbB,e0w,e1w⟩:=ha.out q hqx;have e0:=(Xu HB.out oM).trans e0w;have e1:=(Xu HB.out oM).trans e1w;have HST:=Xa (VR hqx);have HT:Hid (xs.take (q+1)=xs.take q++[xs[q]]):=Xa (List.take_succ_eq_append_getElem hqx);have hrt:=hr.out _ (List.getElem_mem hqx);clear e0w e1w;generalize hm:xs[q]=m at *;obtain⟨t,f⟩:=m;dsimp only at *;clear hm;obtain⟨y,hlk⟩:=Zjk (HO.alloc (.cells #[.int .i64 t,.int .i64 f] 85)) HM.out t hrt;unfold KE at hlk
   (try dsimp only at hlk)
   have HAT:Hid (Uc (xs.take q) ⟨t,f⟩=(decide (0<=t/\t<64/\0<=f/\f<64) && !(xs.take q).any (fun z=>z.to==t))):=Xa rfl;generalize hany:(xs.take q).any (fun z=>z.to==t)=tw at *;have HANY:=Xa hany;clear hany;obtain⟨y0,y1,y2,y3,y4⟩:=y
   (try dsimp only at *)
   cases tw with
   | true =>
    have HF:Hid (Yy xs=false):=Xa (by rw[HJ.out,HST.out,HAT.out];simp);go_wp2;refine bodyPost_ret (v:=.tuple #[.map (some w.heap.size),.bool false]) (by simp[results,Tryz.results119,go_sem, *]) rfl ?_;exact⟨Xb (Xb HB.out _) _,by rw[HF.out],fun h=>by rw[HF.out]at h;cases h⟩
   | false =>
    by_cases hrt1:0<=t/\t<64
    ·have F1:Hid (Jj true t 0 64=true):=Xa (by simp[Jj,hrt1])
     by_cases hrf:0<=f/\f<64
     ·have F2:Hid (Jj true f 0 64=true):=Xa (by simp[Jj,hrf])
      have HGA:Hid (Uc (xs.take q) ⟨t,f⟩=true):=Xa (by rw[HAT.out];simp[hrt1,hrf]);have HCP:Hid (cpI ⟨t,f⟩=⟨11,t,f,0,0⟩):=Xa (Zfc hrf.1);have HKT:=Xa (Wu t hrt);have HM2:Hid (Ze (D.put (.int .i64 t) (TX ⟨11,t,f,0,0⟩)) (xs.take (q+1))):=Xa (by rw[HT.out,<-HCP.out];exact HM.put_new (m:=⟨t,f⟩) HANY.out);have HG2:Hid (KY (xs.take (q+1))):=Xa (by rw[HT.out];exact HGL.snoc HGA.out);have HJ2:Hid (Yy xs=JY (xs.take (q+1)) (xs.drop (q+1))):=Xa (by rw[HJ.out,HST.out,HGA.out,Bool.true_and]);clear HAT HANY HGA HM HGL HJ HST HT hrt hrt1 hrf HCP
      go_wp2_with (first
       | (go_at_call 130;refine(XH _ _ _ _ _).mono ?_;rintro e w2 ⟨rfl,hw2⟩;rw[hw2];clear hw2 w2;first | rw[F1.out] | rw[F2.out])
       | (at_mapUpdate;refine wpList_mapUpdate_own _ rfl _ _ _ 207 rfl 2 54 Tryz.keyI Tryz.tMap YX w.heap.size q D rfl ((HO.alloc _).alloc _) (by unfold maxLen;omega) _ _ _ rfl rfl HKT.out (TX ⟨11,t,f,0,0⟩) [] rfl ?_;intro w3 hown3 hg3))
      exact⟨⟨q+1,_,oM,gM,Xa ((Xb (Xb HB.out _) _).grown hg3 (by simp;omega) (fun k hk=>by cases hk;exact Nat.le_refl _)),Xa hown3,HM2,HG2,HJ2⟩,by simp[RowKit.intOf];omega⟩
     ·have F2:Hid (Jj true f 0 64=false):=Xa (by simp[Jj];omega)
      have HF:Hid (Yy xs=false):=Xa (by rw[HJ.out,HST.out,HAT.out];simp;omega);clear HAT HANY HM HGL HJ HST HT hrt hrt1 hrf
      go_wp2_with (go_at_call 130;refine(XH _ _ _ _ _).mono ?_;rintro e w2 ⟨rfl,hw2⟩;rw[hw2];clear hw2 w2;first | rw[F1.out] | rw[F2.out])
      refine bodyPost_ret (v:=.tuple #[.map (some w.heap.size),.bool false]) (by simp[results,Tryz.results119,go_sem, *]) rfl ?_;exact⟨Xb (Xb HB.out _) _,by rw[HF.out],fun h=>by rw[HF.out]at h;cases h⟩
    ·have F1:Hid (Jj true t 0 64=false):=Xa (by simp[Jj];omega)
     have HF:Hid (Yy xs=false):=Xa (by rw[HJ.out,HST.out,HAT.out];simp;omega);clear HAT HANY HM HGL HJ HST HT hrt hrt1
     go_wp2_with (go_at_call 130;refine(XH _ _ _ _ _).mono ?_;rintro e w2 ⟨rfl,hw2⟩;rw[hw2];clear hw2 w2;rw[F1.out])
     refine bodyPost_ret (v:=.tuple #[.map (some w.heap.size),.bool false]) (by simp[results,Tryz.results119,go_sem, *]) rfl ?_;exact⟨Xb (Xb HB.out _) _,by rw[HF.out],fun h=>by rw[HF.out]at h;cases h⟩
  ·have hqn:q=n:=oM
   have HF:Hid (Yy xs=true):=Xa (by rw[HJ.out,List.drop_eq_nil_of_le (by have:=hx.out;omega)];rfl);have HX:Hid (xs.take q=xs):=Xa (List.take_of_length_le (by have:=hx.out;omega));rw[HX.out]at HM HGL;have HD:=Xa (WU w.heap.size q D xs wr HO.out HM HGL)
   go_wp2_with (go_at_call 141;refine HD.mono ?_;rintro e w2 ⟨rfl,hg2,D2,ho2,hm2⟩)
   refine bodyPost_ret (v:=.tuple #[.map (some w.heap.size),.bool true]) (by simp[results,Tryz.results119,go_sem, *]) rfl ?_;exact⟨HB.grown hg2 hwz (fun k hk=>by cases hk;exact Nat.le_refl _),by rw[HF.out],fun _=>⟨D2,ho2.mono oM,hm2⟩⟩
end Go.Proofs.YtlmgmkmomaileaaGreatDoor
namespace Go.Proofs.YtlmgmkmomaileaaGreatDoor
set_option maxHeartbeats 1000000
set_option maxRecDepth 100000
open Go.RowKit Go.Maps
theorem Tryz.infoU64:(Tryz.prog.info? 145).map (fun i=>(i.zero,i.size,i.bytes))=some (some (.int .u64 0),1,8):=vZ
theorem ZjP{t:Nat}(h:t<64):(t:Int).tdiv 64=0:=by rw[Int.tdiv_eq_ediv_of_nonneg oM];omega
theorem ZjG{t:Nat}(h:t<64):(t:Int).tmod 64=t:=by rw[Int.tmod_eq_emod_of_nonneg oM];omega
theorem ZiS{W t:Nat}(hW:W<18446744073709551616):(bits .and .u64 ((W:Int) / 2 ^ t) 1==1)=W.testBit t:=by
 have hq:W / 2 ^ t<18446744073709551616:=Nat.lt_of_le_of_lt (Nat.div_le_self _ _) hW;have e:((W:Int) / 2 ^ t)=((W / 2 ^ t:Nat):Int):=sP;rw[e,show(1:Int)=((1:Nat):Int) from rfl,u64_and_nat _ _ hq dC,Nat.and_one_is_mod,Nat.testBit_eq_decide_div_mod_eq];by_cases h:W / 2 ^ t % 2=1
 ·simp[h]
 ·have h0:W / 2 ^ t % 2=0:=oM
  simp[h0]
theorem Zjm{W t:Nat}(ht:t<64)(hW:W<18446744073709551616):bits .or .u64 (W:Int) (IntKind.u64.wrap (2 ^ t))=((W ||| 2 ^ t:Nat):Int):=by
 have h2:2 ^ t<18446744073709551616:=Nat.lt_of_lt_of_le (Nat.pow_lt_pow_right dC ht) dC;have e:IntKind.u64.wrap (2 ^ t)=((2 ^ t:Nat):Int):=by
  rw[IntKind.wrap_u64];have:((2 ^ t:Nat):Int)=(2:Int) ^ t:=sP;rw[<-this];exact Int.emod_eq_of_lt (Int.natCast_nonneg _) (Int.ofNat_lt.2 h2)
 rw[e,u64_or_nat _ _ hW h2]
theorem Zkd{W t:Nat}(ht:t<64)(hW:W<18446744073709551616):W ||| 2 ^ t<18446744073709551616:=by
 have h2:2 ^ t<2 ^ 64:=Nat.pow_lt_pow_right dC ht;exact Nat.or_lt_two_pow (n:=64) (by simpa using hW) h2
theorem Ze2(w:World):Calls Tryz.prog 143 #[.int .i64 64] w fun e w'=>∃g,e=.returned (.agg #[.slice (some ⟨g,0,none⟩) 1 1])/\w.heap.size<=g/\Below w.heap.size w w'/\w'.cell? ⟨g,0,none⟩=some (.int .u64 ((0:Nat):Int))/\∀q,w'.frozen? ⟨g,q,none⟩=false:=by
 have hmk:=run_make_row' (P:=Tryz.prog) 91 145 (.int .u64 0) 8 Tryz.underlying91 Tryz.infoU64 rfl .i64 .i64 1 oM oM;rw[show((1:Nat):Int)=1 from rfl]at hmk
 go_enter Tryz.func143,Tryz.ntmps143
 go_wp2;refine bodyPost_ret (v:=.agg #[.slice (some ⟨w.heap.size+1,0,none⟩) 1 1]) (by simp[results,Tryz.results143,go_sem]) rfl ?_;exact⟨w.heap.size+1,rfl,oM,Xb (Xb (Below.refl _ _) _) _,by simp[madeCells],fun q=>sP⟩
theorem Zi7(g W t:Nat)(w:World)(ht:t<64)(hW:W<18446744073709551616)(hc:w.cell? ⟨g,0,none⟩=some (.int .u64 W)):Calls Tryz.prog 147 #[.agg #[.slice (some ⟨g,0,none⟩) 1 1],.int .i64 t] w fun e w'=>e=.returned (.bool (W.testBit t))/\Below w.heap.size w w':=by
 have h2:=ZjP ht;have h3:=ZjG ht;have hg:g<w.heap.size:=World.block_lt_of_cell? w _ hc;have hc2:=fun x=>((Xb (Below.refl w.heap.size w) x).cell (p:=⟨g,0,none⟩) hg).trans hc
 clear hc
 go_enter Tryz.func147,Tryz.ntmps147
 go_wp2
 go_ret
 exact⟨Xj (ZiS hW),Xb (Below.refl _ _) _⟩
def UZ(W:Nat)(ts:List Nat):Nat:=ts.foldl (fun a t=>a ||| 2 ^ t) W
theorem Ziy(g W n c:Nat)(a:Option Addr)(ts:List Nat)(L B:Nat)(w:World)(ha:Hid (Xf w L B a (ts.map Int.ofNat)))(hx:Hid (n=ts.length))(hn:n<=64)(ht:Hid (∀t∈ts,t<64))(hW:W<18446744073709551616)(hc:w.cell? ⟨g,0,none⟩=some (.int .u64 W))(hz:∀q,w.frozen? ⟨g,q,none⟩=false)(hB:B<=w.heap.size)(hgL:¬(L<=g/\g<B)) :
 Calls Tryz.prog 144 #[.agg #[.slice (some ⟨g,0,none⟩) 1 1],.slice a n c] w fun e w'=>e=.returned (.tuple #[])/\w.grownBy w' (some g)/\UZ W ts<18446744073709551616/\w'.cell? ⟨g,0,none⟩=some (.int .u64 (UZ W ts))/\∀q,w'.frozen? ⟨g,q,none⟩=false:=by
 go_enter Tryz.func144,Tryz.ntmps144
 go_wp2;have HW0:Hid (Xf w L B a (ts.map Int.ofNat)):=ha;have hg:g<w.heap.size:=World.block_lt_of_cell? w _ hc
 go_loopw [8] (fun u wr=>∃q:Nat,q<=n/\u=.int .i64 q/\Hid (w.grownBy wr (some g))/\wr.cell? ⟨w.heap.size,0,none⟩=some (.slice (some ⟨g,0,none⟩) 1 1)/\Hid (UZ W (ts.take q)<18446744073709551616)/\wr.cell? ⟨g,0,none⟩=some (.int .u64 (UZ W (ts.take q)))/\Hid (∀k,wr.frozen? ⟨g,k,none⟩=false)) (fun u _=>n-(RowKit.intOf u).toNat)
 case atStart=>exact⟨0,Nat.zero_le _,rfl,Xa (World.grownBy_alloc _ _ _),sP,Xa (by simpa [UZ]using hW),by rw[World.cell?_alloc_lt _ _ _ hg];simpa [UZ]using hc,Xa (fun k=>by rw[World.frozen?_alloc_old _ _ _ (by show g≠_;omega)];exact hz k)⟩
 case round =>
  clear hc;obtain⟨q,hq,rfl,HG,hs,HA,hc,HZ⟩:=hrel;by_cases hlt:q<n
  ·have hqx:q<ts.length:=by have:=hx.out;omega
   obtain⟨b,o,rfl,hbB,e0w⟩:=ha.out q (by simpa using hqx);have e0:=(Xc (HG.block b oM (fun e=>by injection e with e;omega))).trans e0w;rw[List.getElem_map]at e0;have htq:=ht.out _ (List.getElem_mem hqx);have HT:Hid (UZ W (ts.take (q+1))=UZ W (ts.take q) ||| 2 ^ ts[q]):=Xa (by
    unfold UZ;rw[List.take_succ_eq_append_getElem hqx,List.foldl_append];rfl)
   have hz0:=HZ.out 0;clear e0w;generalize ts[q]=t at *;have h2:=ZjP htq;have h3:=ZjG htq;generalize hWW:UZ W (ts.take q)=W1 at *;have e0':wr.cell? ⟨b,o+q,none⟩=some (.int .i64 (t:Int)):=e0;clear e0 hWW;go_wp2
   go_region
   go_wp2;rw[Zjm htq HA.out];have hgl:=HG.size;have kk:wr.grownBy (wr.setCell ⟨g,0,none⟩ (.int .u64 ((W1 ||| 2 ^ t:Nat):Int))).drew (some g):=⟨rfl,rfl,rfl,by simp[World.setCell,World.drew],fun k _ hk=>Below.heap_setCell _ _ _ _ (fun e=>hk (by rw[e]))⟩;refine⟨⟨q+1,oM,gM,Xa (HG.andThen kk (fun j hj=>by cases hj;exact Or.inr rfl)),?_,Xa ?_,?_,Xa ?_⟩,by simp[RowKit.intOf];omega⟩
   ·exact(World.cell?_setCell_far wr ⟨g,0,none⟩ ⟨w.heap.size,0,none⟩ _ (by show g≠w.heap.size;omega)).trans hs
   ·rw[HT.out];exact Zkd htq HA.out
   ·rw[HT.out];exact World.cell?_setCell_same _ _ _ hc
   ·intro k;show(wr.setCell _ _).frozen? _=false;rw[World.frozen?_setCell];exact HZ.out k
  ·have hqn:q=n:=oM
   have HX:Hid (ts.take q=ts):=Xa (List.take_of_length_le (by have:=hx.out;omega));rw[HX.out]at hc HA;go_wp2
   go_end0
   exact⟨rfl,HG.out,HA.out,hc,HZ.out⟩
end Go.Proofs.YtlmgmkmomaileaaGreatDoor
namespace Go.Proofs.YtlmgmkmomaileaaGreatDoor
set_option maxHeartbeats 2000000
set_option maxRecDepth 100000
open Go.RowKit Go.Maps
def readsI(x:XN):List Int:=(if aB x.op then [x.a]else [])++(if bB x.op then [x.b]else [])
theorem Zgl(b k:Nat)(dst a bb imm:Int)(w:World)(hi:Hid (Yd w b 0 ⟨k,dst,a,bb,imm⟩))(h1:1<=k)(h2:k<=13)(ht:Hid (XQ w)) :
 Calls Tryz.prog 136 #[.pointer (some ⟨b,0,none⟩)] w fun e w'=>∃v,e=.returned v/\Below w.heap.size w w'/\w'.ownsRow w.heap.size 2 1 v (readsI ⟨k,dst,a,bb,imm⟩).length ((readsI ⟨k,dst,a,bb,imm⟩).map (Value.int .i64)):=by
 obtain⟨q0,q1,q2,q3,q4⟩:=hi.out;simp only at q0 q1 q2 q3 q4;obtain⟨c0,c1,c2,c3,c4⟩:=ht.2 k h1 h2;have hz:=ht.1;have hbl:b<w.heap.size:=World.block_lt_of_cell? w _ q2;have HRI:Hid (readsI ⟨k,dst,a,bb,imm⟩=(if aB (k:Int)then [a]else [])++(if bB (k:Int)then [bb]else [])):=Xa rfl;generalize readsI ⟨k,dst,a,bb,imm⟩=vs at *;generalize dB (k:Int)=uD at *;generalize aB (k:Int)=uA at *;generalize bB (k:Int)=uB at *;generalize iB (k:Int)=uI at *;have HQ2:=Xa q2;have HQ3:=Xa q3
 go_enter Tryz.func136,Tryz.ntmps136
 go_wp2_with fail
 have e1:(w.alloc (.cells #[.string (YS (ZN k)),.bool uD,.bool uA,.bool uB,.bool uI] 150)).heap.size=w.heap.size+1:=sP;have g2:(w.alloc (.cells #[.string (YS (ZN k)),.bool uD,.bool uA,.bool uB,.bool uI] 150)).cell? ⟨w.heap.size,2,none⟩=some (.bool uA):=sP;have g3:(w.alloc (.cells #[.string (YS (ZN k)),.bool uD,.bool uA,.bool uB,.bool uI] 150)).cell? ⟨w.heap.size,3,none⟩=some (.bool uB):=sP;have HBW:Hid (Below w.heap.size w (w.alloc (.cells #[.string (YS (ZN k)),.bool uD,.bool uA,.bool uB,.bool uI] 150))):=Xa (Xb (Below.refl _ _) _);generalize w.alloc (.cells #[.string (YS (ZN k)),.bool uD,.bool uA,.bool uB,.bool uI] 150)=W0 at *;clear q0 q1 q2 q3 q4 c0 c1 c2 c3 c4;have HE1:=Xa e1;have hlt:w.heap.size<W0.heap.size:=oM;clear e1;have KEY:Hid (∀(ka fa:Option Addr)(W:World),Below W0.heap.size W0 W->Yk W W0.heap.size W.heap.size ka ([uA,uB].map Value.bool)->Yk W W0.heap.size W.heap.size fa ([⟨b,2,none⟩,⟨b,3,none⟩].map ZU)->Calls Tryz.prog 77 #[.slice ka 2 2,.slice fa 2 2] W fun e w5=>∃a5 c5 m5,e=.returned (.slice a5 m5 c5)/\w5.cell? ⟨w.heap.size,2,none⟩=some (.bool uA)/\w5.cell? ⟨w.heap.size,3,none⟩=some (.bool uB) /\
  Hid (Calls Tryz.prog 149 #[.slice a5 m5 c5] w5 fun e w'=>∃v,e=.returned v/\w'.cell? ⟨w.heap.size,2,none⟩=some (.bool uA)/\w'.cell? ⟨w.heap.size,3,none⟩=some (.bool uB)/\Hid (Below w.heap.size w w')/\Hid (w'.ownsRow w.heap.size 2 1 v vs.length (vs.map (Value.int .i64))))):=Xa (fun ka fa W hW hk hp=>by
  have hsz:=hW.size;refine(Jp ka fa 2 2 [uA,uB] [⟨b,2,none⟩,⟨b,3,none⟩] W0.heap.size W.heap.size W (Nat.le_refl _) (Xa hk) (Xa hp) (Xa rfl) sP).mono ?_;rintro e w5 ⟨v5,rfl,hb5,ho5⟩;have s5:=hb5.size;have k5:Below W0.heap.size W0 w5:=Xd hW hb5;obtain⟨a5,c5,rfl,hv5⟩:=Zb ho5;rw[List.length_map];have hbw:Below w.heap.size w w5:=HBW.trans (k5.mono oM);refine⟨a5,c5,_,rfl,(k5.cell (p:=⟨w.heap.size,2,none⟩) hlt).trans g2,(k5.cell (p:=⟨w.heap.size,3,none⟩) hlt).trans g3,Xa ?_⟩;have r2:=(hbw.cell (p:=⟨b,2,none⟩) hbl).trans HQ2.out;have r3:=(hbw.cell (p:=⟨b,3,none⟩) hbl).trans HQ3.out;have hb5l:b<w5.heap.size:=oM;refine(ZZ a5 c5 (XD [uA,uB] [⟨b,2,none⟩,⟨b,3,none⟩]) vs W.heap.size w5.heap.size w5 (Nat.le_refl _) (Xa hv5) (Xa ?_) (Xa ?_) ?_).mono ?_
  ·rw[HRI.out];cases uA<;>cases uB<;>rfl
  ·intro i h h'
   have hvs:=HRI.out;subst hvs;cases uA<;>cases uB
   ·exact absurd h (by simp[XD])
   ·match i,h with
    | 0,_=>exact⟨hb5l,r3⟩
   ·match i,h with
    | 0,_=>exact⟨hb5l,r2⟩
   ·match i,h with
    | 0,_=>exact⟨hb5l,r2⟩
    | 1,_=>exact⟨hb5l,r3⟩
  ·cases uA<;>cases uB<;>simp[XD]
  ·rintro e w7 ⟨v7,rfl,hb7,ho7⟩
   have k7:=Xd k5 hb7;exact⟨v7,rfl,(k7.cell (p:=⟨w.heap.size,2,none⟩) hlt).trans g2,(k7.cell (p:=⟨w.heap.size,3,none⟩) hlt).trans g3,Xa (HBW.trans (k7.mono oM)),Xa (X9 ho7 oM)⟩)
 have HCH1:=Xa (KEY.out (some ⟨W0.heap.size,0,none⟩) (some ⟨W0.heap.size+1,0,none⟩) ((W0.alloc (.cells #[.bool uA,.bool uB] 4)).alloc (.cells #[.pointer (some ⟨b,2,none⟩),.pointer (some ⟨b,3,none⟩)] 147)).drew (Xb (Xb (Below.refl W0.heap.size W0) _) _).drew (by rw[show((W0.alloc (.cells #[.bool uA,.bool uB] 4)).alloc (.cells #[.pointer (some ⟨b,2,none⟩),.pointer (some ⟨b,3,none⟩)] 147)).drew.heap.size=W0.heap.size+2 from by show((W0.alloc (.cells #[.bool uA,.bool uB] 4)).alloc (.cells #[.pointer (some ⟨b,2,none⟩),.pointer (some ⟨b,3,none⟩)] 147)).heap.size=_;simp];exact YR W0 [.bool uA,.bool uB] 4 [.pointer (some ⟨b,2,none⟩),.pointer (some ⟨b,3,none⟩)] 147) (by rw[show((W0.alloc (.cells #[.bool uA,.bool uB] 4)).alloc (.cells #[.pointer (some ⟨b,2,none⟩),.pointer (some ⟨b,3,none⟩)] 147)).drew.heap.size=W0.heap.size+2 from by show((W0.alloc (.cells #[.bool uA,.bool uB] 4)).alloc (.cells #[.pointer (some ⟨b,2,none⟩),.pointer (some ⟨b,3,none⟩)] 147)).heap.size=_;simp];exact YP W0 [.pointer (some ⟨b,2,none⟩),.pointer (some ⟨b,3,none⟩)] 147 [.bool uA,.bool uB] 4));have HCH2:=Xa (KEY.out (some ⟨W0.heap.size+1,0,none⟩) (some ⟨W0.heap.size,0,none⟩) ((W0.alloc (.cells #[.pointer (some ⟨b,2,none⟩),.pointer (some ⟨b,3,none⟩)] 147)).alloc (.cells #[.bool uA,.bool uB] 4)).drew (Xb (Xb (Below.refl W0.heap.size W0) _) _).drew (by rw[show((W0.alloc (.cells #[.pointer (some ⟨b,2,none⟩),.pointer (some ⟨b,3,none⟩)] 147)).alloc (.cells #[.bool uA,.bool uB] 4)).drew.heap.size=W0.heap.size+2 from by show((W0.alloc (.cells #[.pointer (some ⟨b,2,none⟩),.pointer (some ⟨b,3,none⟩)] 147)).alloc (.cells #[.bool uA,.bool uB] 4)).heap.size=_;simp];exact YP W0 [.bool uA,.bool uB] 4 [.pointer (some ⟨b,2,none⟩),.pointer (some ⟨b,3,none⟩)] 147) (by rw[show((W0.alloc (.cells #[.pointer (some ⟨b,2,none⟩),.pointer (some ⟨b,3,none⟩)] 147)).alloc (.cells #[.bool uA,.bool uB] 4)).drew.heap.size=W0.heap.size+2 from by show((W0.alloc (.cells #[.pointer (some ⟨b,2,none⟩),.pointer (some ⟨b,3,none⟩)] 147)).alloc (.cells #[.bool uA,.bool uB] 4)).heap.size=_;simp];exact YR W0 [.pointer (some ⟨b,2,none⟩),.pointer (some ⟨b,3,none⟩)] 147 [.bool uA,.bool uB] 4));clear KEY HBW HQ2 HQ3 HRI
 go_region_held3 (fun w'=>w'.cell? ⟨w.heap.size,2,none⟩=some (.bool uA)/\w'.cell? ⟨w.heap.size,3,none⟩=some (.bool uB)) (go_keep)
  (first
   | (go_at_call 77;with_reducible refine HCH1.out.mono ?_;rintro e w5 ⟨a5,c5,m5,rfl,f2,f3,HC5⟩)
   | (go_at_call 77;with_reducible refine HCH2.out.mono ?_;rintro e w5 ⟨a5,c5,m5,rfl,f2,f3,HC5⟩)
   | (go_at_call 149;with_reducible refine HC5.out.mono ?_;rintro e w7 ⟨v7,rfl,h2,h3,HB7,HO7⟩))
 all_goals
  go_wp2
  go_ret
  exact⟨_,rfl,HB7.out,HO7.out⟩
end Go.Proofs.YtlmgmkmomaileaaGreatDoor
namespace Go.Proofs.YtlmgmkmomaileaaGreatDoor
open Go.RowKit Go.Maps Go.Sort Go.Shelf
shelf_lay_g SlLaysZI.n7 Ggz 7 at Tryz 146 as Tryz.keysA
shelf_lay_g SlLaysZI.n6 Ggz 6 at Tryz 145 as Tryz.sortedA
shelf_lay_g SlLaysM.n5 Slgm 5 at Tryz 153 as Tryz.sortA
theorem Zk8(m:Nat):AnyZI.SortsIn Tryz.prog Tryz.sortedA_ren Fence.wide m :=
 ⟨fun blk off cap ss W hH hblk hsz=>callsIn_wide.2 (AnyM.slices_Sort_int Tryz.sortA blk off cap ss W hH hblk hsz),
  fun p cap W=>callsIn_wide.2 (AnyM.slices_Sort_int_none Tryz.sortA p cap W)⟩
theorem ZbZ(mb:Option Nat)(W:World):Calls Tryz.prog 146 #[.map mb] W fun e w'=>e=.returned (.func (.func 154) #[] #[.pointer (some ⟨W.heap.size,0,none⟩)])/\w'=W.alloc (.cells #[.map mb] 207) :=
 (callsIn_wide (n:=5)).1 (AnyZI.keys_in Tryz.keysA Fence.wide 5 trivial rfl mb W)
theorem Zea(b nn:Nat)(D0:DataW Unit)(w:World)(hown:w.ownsMap Tryz.prog 2 YX b nn D0)(hmax:Maps.size D0<=64) :
 Calls Tryz.prog 145 #[.func (.func 154) #[] #[.pointer (some ⟨w.heap.size,0,none⟩)]] (w.alloc (.cells #[.map (some b)] 207)) fun e w'=>∃(v:Value)(ss:List Int),e=.returned v/\ss.Perm (intKeys D0) /\
  w'.ownsRow w.heap.size 2 1 v ss.length ((ss.mergeSort (fun x y=>decide (x<=y))).map encZ)/\Below w.heap.size w w':=by
 refine(callsIn_wide (n:=5)).1 ?_;have hbl:=hown.lt;have hseq:SeqGives Fence.wide 2 Tryz.prog 154 #[.pointer (some ⟨w.heap.size,0,none⟩)] encZ (fun ss=>ss.Perm (intKeys D0)) (Maps.size D0) (w.alloc (.cells #[.map (some b)] 207)) :=
  AnyZI.keys_gives (ρ:=Tryz.keysA_ren) { Tryz.keysA with } Fence.wide _ trivial rfl oM w.heap.size b nn D0 _ sP sP (by
   obtain⟨es,clock,hb,Ft,hs,hD⟩:=hown;exact⟨es,clock,(Below.heap_alloc _ _ b hbl).trans hb,Ft,hs,hD⟩)
 have cS:=AnyZI.sorted_in Tryz.sortedA Fence.wide 5 trivial trivial trivial trivial rfl oM (Zk8 _) (enters_of Tryz.func153 vZ rfl) 154 #[.pointer (some ⟨w.heap.size,0,none⟩)] trivial (enters_of Tryz.func154 vZ rfl) _ _ (by unfold maxLen;omega) oM _ hseq;change CallsIn _ _ Tryz.prog 145 _ _ _ at cS;refine cS.mono ?_;rintro e w' ⟨v,ss,rfl,hS,hrow,hnil,hb⟩;exact⟨v,ss,rfl,hS,ownsRow_base_a hrow sP,((Below.refl _ w).alloc (Nat.le_refl _) _).trans (hb.mono sP)⟩
theorem Zen{L:List Mv}(hn:(Yg L).Nodup){q m:Mv}(hq:q∈L)(hm:m∈L)(e:q.to=m.to):q=m:=by
 obtain⟨i,hi,rfl⟩:=List.getElem_of_mem hq;obtain⟨j,hj,rfl⟩:=List.getElem_of_mem hm;have key:=List.pairwise_iff_getElem.1 (show(L.map (·.to)).Pairwise (·≠·) from hn);rcases Nat.lt_trichotomy i j with hl | hl | hl
 ·exact(key i j (by simpa using hi) (by simpa using hj) hl (by simp[e])).elim
 ·subst hl;rfl
 ·exact(key j i (by simpa using hj) (by simpa using hi) hl (by simp[e])).elim
def ZdO(L:List Mv)(left:Lit->Bool)(t:Nat):Bool:=L.any fun m=>!left (.int .i64 m.to)&&(m.frm==(t:Int))
theorem Zfi{L:List Mv}{left:Lit->Bool}(h:∀m∈L,left (.int .i64 m.to)=true)(t:Nat):ZdO L left t=false:=List.any_eq_false.2 (fun m hm=>by simp[h m hm])
theorem Zi0{L:List Mv}{left:Lit->Bool}(h:∀k,left k=false)(t:Nat):ZdO L left t=X7 L t:=by
 unfold ZdO X7;congr 1;funext m;simp[h]
theorem ZgN{L:List Mv}(hn:(Yg L).Nodup){left:Lit->Bool}{m:Mv}(hm:m∈L)(t:Nat):ZdO L (fun z=>left z && !z.sameKey (.int .i64 m.to)) t=(ZdO L left t||m.frm==(t:Int)):=by
 rw[Bool.eq_iff_iff];unfold ZdO;simp only[List.any_eq_true,Bool.or_eq_true];constructor
 ·rintro⟨q,hq,h⟩
  by_cases e:q.to=m.to
  ·have:=Zen hn hq hm e
   subst this;simp only[Bool.and_eq_true]at h;exact Or.inr h.2
  ·rw[Jb e]at h
   exact Or.inl ⟨q,hq,h⟩
 ·rintro(⟨q,hq,h⟩ | h)
  ·by_cases e:q.to=m.to
   ·refine⟨q,hq,?_⟩
    rw[e,KT];simp only[Bool.and_eq_true]at h;simpa using h.2
   ·exact⟨q,hq,by rw[Jb e];exact h⟩
  ·exact⟨m,hm,by rw[KT];simpa using h⟩
def JB(m:Mv):List Nat:=if m.frm<0 then []else [m.frm.toNat]
theorem ZgK(m:Mv):readsI (cpI m)=(JB m).map Int.ofNat:=by
 unfold JB cpI;by_cases h:m.frm<0
 ·rw[if_pos h,if_pos h];rfl
 ·rw[if_neg h,if_neg h]
  show[m.frm]++[]=[Int.ofNat m.frm.toNat];rw[List.append_nil];congr 1;exact(Int.toNat_of_nonneg oM).symm
theorem Zfk(m:Mv)(W t:Nat):(UZ W (JB m)).testBit t=(W.testBit t||m.frm==(t:Int)):=by
 unfold JB;by_cases h:m.frm<0
 ·rw[if_pos h]
  have:(m.frm==(t:Int))=false:=by simpa using(by omega:m.frm≠t)
  rw[this,Bool.or_false];rfl
 ·rw[if_neg h]
  show(W ||| 2 ^ m.frm.toNat).testBit t=_;rw[Nat.testBit_or,Nat.testBit_two_pow];congr 1;rw[Bool.eq_iff_iff];simp;omega
theorem Zh1{m:Mv}(h:m.frm=-1\/(0<=m.frm/\m.frm<64)):∀t∈JB m,t<64:=by
 unfold JB;split
 ·simp
 ·simp;omega
def XP(ss:List Int):List Int:=ss.mergeSort (fun x y=>decide (x<=y))
theorem Zy(ss:List Int):(XP ss).Perm ss:=List.mergeSort_perm _ _
theorem Ze7(ss:List Int){i j:Nat}(hij:i<=j)(hj:j<(XP ss).length):(XP ss)[i]<=(XP ss)[j]:=by
 have hp:(XP ss).Pairwise (fun a b=>decide (a<=b)=true):=List.pairwise_mergeSort (fun a b c h1 h2=>by simp only[decide_eq_true_eq]at *;omega) (fun a b=>by simp only[Bool.or_eq_true,decide_eq_true_eq];omega) ss;rcases Nat.lt_or_eq_of_le hij with h | h
 ·simpa using List.pairwise_iff_getElem.1 hp i j oM hj h
 ·subst h;exact Int.le_refl _
theorem ZdG{L:List Mv}{ss:List Int}(hp:ss.Perm (Yg L)){i:Nat}(hi:i<(XP ss).length)(hr:∀j (h:j<i),X7 L ((XP ss)[j]' oM)=true)(hf:X7 L (XP ss)[i]=false):Zm (ZL L)=some (XP ss)[i]:=by
 refine VB (List.mem_filter.2 ⟨((Zy ss).trans hp).mem_iff.1 (List.getElem_mem hi),by rw[hf];rfl⟩) (fun x hx=>?_);obtain⟨h1,h2⟩:=List.mem_filter.1 hx;obtain⟨j,hj,rfl⟩:=List.getElem_of_mem (((Zy ss).trans hp).mem_iff.2 h1);by_cases hji:j<i
 ·rw[hr j hji]at h2;cases h2
 ·exact Ze7 ss oM hj
theorem ZfA{L:List Mv}{ss:List Int}(hp:ss.Perm (Yg L))(hr:∀j (h:j<(XP ss).length),X7 L (XP ss)[j]=true):Zm (ZL L)=none:=by
 rw[ZI];refine List.filter_eq_nil_iff.2 (fun x hx=>?_);obtain⟨j,hj,rfl⟩:=List.getElem_of_mem (((Zy ss).trans hp).mem_iff.2 hx);rw[hr j hj];simp
theorem Zf6{L:List Mv}{ss:List Int}(hp:ss.Perm (Yg L))(h0:0<(XP ss).length):Zm (Yg L)=some (XP ss)[0]:=by
 refine VB (((Zy ss).trans hp).mem_iff.1 (List.getElem_mem h0)) (fun x hx=>?_);obtain⟨j,hj,rfl⟩:=List.getElem_of_mem (((Zy ss).trans hp).mem_iff.2 hx);exact Ze7 ss (Nat.zero_le _) hj
theorem VQ{L:List Mv}{ss:List Int}(hp:ss.Perm (Yg L)):(XP ss).length=L.length:=by
 rw[((Zy ss).trans hp).length_eq];simp[Yg]
theorem VN{L:List Mv}{ss:List Int}(hp:ss.Perm (Yg L)){x:Int}:x∈XP ss↔x∈Yg L:=((Zy ss).trans hp).mem_iff
theorem calm{w w':World}(h:Below w.heap.size w w'):w.grownBy w' none:=⟨h.os,h.tape,h.output,h.size,fun k hk _=>h.block k hk⟩
end Go.Proofs.YtlmgmkmomaileaaGreatDoor
