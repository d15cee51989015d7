import Derived.Test.YtlmgmkmomaileaaGreatDoorSQ8
namespace Go.Proofs.YtlmgmkmomaileaaGreatDoor
set_option maxHeartbeats 4000000
set_option maxRecDepth 100000
open Go.RowKit Go.Maps Go.Sort Go.Shelf
theorem ZaM(b nn:Nat)(D0:DataW Unit)(L:List Mv)(w:World)(hown:w.ownsMap Tryz.prog 2 YX b nn D0)(hmax:Maps.size D0<=64)(hp:(intKeys D0).Perm (Yg L)) :
 Calls Tryz.prog 145 #[.func (.func 154) #[] #[.pointer (some ⟨w.heap.size,0,none⟩)]] (w.alloc (.cells #[.map (some b)] 207)) fun e w'=>∃a4 c4 ss,e=.returned (.slice a4 L.length c4)/\Hid (ss.Perm (Yg L))/\Yk w' w.heap.size w'.heap.size a4 ((XP ss).map encZ)/\Below w.heap.size w w':=by
 refine(Zea b nn D0 w hown hmax).mono ?_;rintro e w4 ⟨v4,ss,rfl,hp4,ho4,hb4⟩;obtain⟨a4,c4,rfl,hv4⟩:=Zb ho4;exact⟨a4,c4,ss,by rw[List.length_map];rw[<-VQ (hp4.trans hp)];rfl,Xa (hp4.trans hp),hv4,hb4⟩
theorem ZbI(m:Mv):∃(k:Nat)(a:Int),cpI m=⟨k,m.to,a,0,0⟩/\1<=k/\k<=13:=by
 unfold cpI;split
 ·exact⟨13,0,rfl,oM,oM⟩
 ·exact⟨11,m.frm,rfl,oM,oM⟩
theorem ZhY{x y:XN}(h:KE x=KE y):x=y:=by
 obtain⟨a1,a2,a3,a4,a5⟩:=x;obtain⟨b1,b2,b3,b4,b5⟩:=y;simp only[KE,Value.agg.injEq]at h;have:=congrArg Array.toList h;simp at this;obtain⟨rfl,rfl,rfl,rfl,rfl⟩:=this;rfl
structure Zkl(L:List Mv)(m:Mv)(g R W:Nat)(w w':World):Prop where
 grown:w.grownBy w' (some g)
 lt:UZ W (JB m)<18446744073709551616
 cell:w'.cell? ⟨g,0,none⟩=some (.int .u64 (UZ W (JB m)))
 thaw:∀q,w'.frozen? ⟨g,q,none⟩=false
theorem JV(b n:Nat)(D:DataW Unit)(L:List Mv)(w:World)(hown:Hid (w.ownsMap Tryz.prog 2 YX b n D))(hn:n<=64)(hm:Hid (Ze D L))(hg:Hid (ZC L))(hne:Hid (L≠[]))(ht:Hid (XQ w)) :
 Calls Tryz.prog 120 #[.map (some b)] w fun e w'=>Below w.heap.size w w'/\∃t f,e=.returned (.tuple #[.int .i64 t,.bool f])/\((f=true/\Zm (ZL L)=some t)\/(f=false/\Zm (ZL L)=none/\Zm (Yg L)=some t)):=by
 have hbl:=hown.lt
 go_enter Tryz.func120,Tryz.ntmps120
 go_wp2_with (first
  | (go_at_call 143;refine(Ze2 _).mono ?_;rintro e w1 ⟨g,rfl,hg1,hb1,hc1,hz1⟩;have hown1:=(hown.kept (calm hb1) sP).alloc (.cells #[.slice (some ⟨g,0,none⟩) 1 1] 232))
  | (at_range;refine wpList_range_own _ rfl _ 207 rfl 2 54 Tryz.keyI Tryz.tMap YX b n D rfl hown1 ?_;intro w0 hrg0 hg0 hs0)
  | go_in)
 have hw1:=hb1.size;have hg1':=hg1;have hgl1:g<w1.heap.size:=World.block_lt_of_cell? w1 _ hc1;have hz10:=fun q=>hz1 q
 have HB0:Hid (Below w.heap.size w w0):=Xa ((Xb hb1 _).grown hg0 (by simp;omega) (fun k hk=>by cases hk));have hR0:w0.cell? ⟨w1.heap.size,0,none⟩=some (.slice (some ⟨g,0,none⟩) 1 1):=(Xc (hg0.block w1.heap.size sP sP)).trans sP;have hG0:w0.cell? ⟨g,0,none⟩=some (.int .u64 ((0:Nat):Int)):=(Xc (hg0.block g (by simp;omega) sP)).trans (by rw[World.cell?_alloc_lt _ _ _ hgl1];exact hc1);have hZ0:∀q,w0.frozen? ⟨g,q,none⟩=false:=fun q=>by
  rw[World.frozen?_of_block (hg0.block g (by simp;omega) sP),World.frozen?_alloc_old _ _ _ (by show g≠_;omega)];exact hz1 q
 have e0:(w1.alloc (.cells #[.slice (some ⟨g,0,none⟩) 1 1] 232)).heap.size=w1.heap.size+1:=sP;rw[e0]at hrg0;rw[e0];have HZ0:=Xa hZ0;clear hZ0 hz10 hz1 hc1 hs0 hown1 e0 hg0;generalize w1.heap.size=R at *
 go_frame
 go_loopw [13] (fun _ wr=>∃(left:Lit->Bool)(cnt W:Nat),Hid (wr.ranges Tryz.prog 2 YX b (R+1) n D left cnt)/\Hid (Below w.heap.size w wr)/\wr.cell? ⟨R,0,none⟩=some (.slice (some ⟨g,0,none⟩) 1 1)/\Hid (W<18446744073709551616)/\wr.cell? ⟨g,0,none⟩=some (.int .u64 W)/\Hid (∀q,wr.frozen? ⟨g,q,none⟩=false)/\Hid (∀t,W.testBit t=ZdO L left t))
  (fun _ wr=>wr.rangeLeft b (R+1))
 case atStart=>exact⟨_,_,0,Xa hrg0,HB0,hR0,Xa oM,hG0,HZ0,Xa (fun t=>by rw[Zfi (fun m hm'=>(hm.keys _).2 ⟨m,hm',rfl⟩)];simp)⟩
 case round =>
  clear hrg0 HB0 hR0 hG0 HZ0 hb1;obtain⟨left,cnt,W,HRG,HB,hR,HW,hG,HZ,HV⟩:=hrel
  go_wp2_with (first
   | (at_next;refine wpList_next_ranges _ rfl _ rfl 2 Tryz.keyI YX (Value.int .i64) KE (fun key kl hkey=>by obtain⟨x,rfl,_⟩:=Maps.keyOf_int_inv Tryz.underlying2 hkey;exact⟨x,rfl⟩) (fun v y hv=>by obtain⟨x,rfl,_⟩:=JN hv;exact⟨x,rfl⟩) b (R+1) n _ _ _ rfl HRG.out ?_ ?_)
   | go_in)
  ·intro _ hl0
   have HIR:Hid (∀t:Nat,W.testBit t=X7 L t):=Xa (fun t=>by rw[HV.out t,Zi0 hl0]);have hgg:=hg.out;have hpm:=hm.perm hgg.nd (fun es he p hp=>by
    obtain⟨es',e1,_,e3⟩:=HRG.owns.entries Tryz.keyI;rw[he]at e1;injection e1 with e1;subst e1;exact e3 p hp)
   have hsz:=HB.size;have HS:=Xa (ZaM b n D L wr HRG.owns (Nat.le_trans HRG.owns.size_le hn) hpm);have HK:=Xa (ZbZ (some b) wr);clear hpm hgg
   go_wp2_with (first
    | (go_at_call 146;with_reducible refine HK.out.mono ?_;rintro e w3 ⟨rfl,hw3⟩;rw[hw3];clear hw3 w3)
    | (go_at_call 145;with_reducible refine HS.out.mono ?_;rintro e w4 ⟨a4,c4,ss,rfl,hp,hv4,hb4⟩))
   have HB4:=Xa (HB.trans (hb4.mono hsz));have hR4:=(hb4.cell (p:=⟨R,0,none⟩) (World.block_lt_of_cell? wr _ hR)).trans hR;have hG4:=(hb4.cell (p:=⟨g,0,none⟩) (World.block_lt_of_cell? wr _ hG)).trans hG;have hln:L.length<=64:=by rw[<-hm.size];exact Nat.le_trans HRG.owns.size_le hn
   have hl1:0<L.length:=List.length_pos_iff.2 hne.out;have HV4:Hid (Yk w4 wr.heap.size w4.heap.size a4 ((XP ss).map encZ)):=Xa hv4;have HKL:Hid ((XP ss).length=L.length):=Xa (VQ hp.out);have HTO:Hid (∀x∈XP ss,0<=x/\x<64):=Xa (fun x hx=>by
    obtain⟨q,hq,rfl⟩:=List.mem_map.1 ((VN hp.out).1 hx);exact hg.to q hq)
   have hw4:=hb4.size;clear hv4 hb4 HS HK hR hG HB HRG hl0 HV HZ hsz hm;generalize L.length=nl at *;generalize wr.heap.size=Z at *;generalize wr=wo2 at *
   go_loopw [25] (fun u wr=>∃q:Nat,q<=nl/\u=.int .i64 q/\Hid (Below w4.heap.size w4 wr)/\Hid (∀j (h:j<(XP ss).length),j<q->X7 L (XP ss)[j]=true)) (fun u _=>nl-(RowKit.intOf u).toNat)
   case atStart=>exact⟨0,Nat.zero_le _,rfl,Xa (Below.refl _ _),Xa (fun j _ h=>absurd h oM)⟩
   case round =>
    obtain⟨q,hq,rfl,HX,HF⟩:=hrel;have hR5:=(HX.cell (p:=⟨R,0,none⟩) (World.block_lt_of_cell? w4 _ hR4)).trans hR4;have hG5:=(HX.cell (p:=⟨g,0,none⟩) (World.block_lt_of_cell? w4 _ hG4)).trans hG4;have hxz:=HX.size;by_cases hlt:q<nl
    ·have hqk:q<(XP ss).length:=by have:=HKL.out;omega
     obtain⟨b4,o4,rfl,hbb,hc4⟩:=HV4.out q (by simpa using hqk);have hc5:=(HX.cell (p:=⟨b4,o4+q,none⟩) hbb.2).trans hc4;rw[List.getElem_map]at hc5;have hto:=HTO.out _ (List.getElem_mem hqk);obtain⟨t,hte⟩:∃t:Nat,(XP ss)[q]=(t:Int):=⟨(XP ss)[q].toNat,(Int.toNat_of_nonneg hto.1).symm⟩;have HTE:=Xa hte;rw[hte]at hc5 hto;have ht64:t<64:=oM;have HH:=Xa (Zi7 g W t wr ht64 HW.out hG5);have hbt:=HIR.out t;rw[hbt]at HH;clear hc4 hte hbt hto;cases hrd:X7 L t with
     | false =>
      rw[hrd]at HH;have HRES:Hid (Zm (ZL L)=some (t:Int)):=Xa (by rw[<-HTE.out];exact ZdG hp.out hqk (fun j hj=>HF.out j _ hj) (by rw[HTE.out];exact hrd));clear hrd
      go_wp2_with (go_at_call 147;with_reducible refine HH.out.mono ?_;rintro e w6 ⟨rfl,hb6⟩)
      refine bodyPost_ret (v:=.tuple #[.int .i64 t,.bool true]) (by simp[results,Tryz.results120,go_sem, *]) rfl ?_;exact⟨HB4.trans ((HX.trans (hb6.mono hxz)).mono (by have:=HB4.size;omega)),_,_,rfl,Or.inl ⟨rfl,HRES.out⟩⟩
     | true =>
      rw[hrd]at HH;have HF2:Hid (∀j (h:j<(XP ss).length),j<q+1->X7 L (XP ss)[j]=true):=Xa (fun j h hj=>by
       rcases Nat.lt_succ_iff_lt_or_eq.1 hj with hj | hj
       ·exact HF.out j h hj
       ·subst hj;rw[HTE.out];exact hrd)
      clear hrd
      go_wp2_with (go_at_call 147;with_reducible refine HH.out.mono ?_;rintro e w6 ⟨rfl,hb6⟩)
      exact⟨⟨q+1,oM,gM,Xa (HX.trans (hb6.mono hxz)),HF2⟩,by simp[RowKit.intOf];omega⟩
    ·have hqk:0<(XP ss).length:=by have:=HKL.out;omega
     obtain⟨b4,o4,rfl,hbb,hc4⟩:=HV4.out 0 (by simpa using hqk);have hc5:=(HX.cell (p:=⟨b4,o4+0,none⟩) hbb.2).trans hc4;rw[List.getElem_map,Nat.add_zero]at hc5;have HRES:Hid (Zm (ZL L)=none):=Xa (ZfA hp.out (fun j hj=>HF.out j hj (by have:=HKL.out;omega)));have HRES2:=Xa (Zf6 hp.out hqk);generalize (XP ss)[0]=t at *;clear hc4;go_wp2;refine bodyPost_ret (v:=.tuple #[.int .i64 t,.bool false]) (by simp[results,Tryz.results120,go_sem, *]) rfl ?_;exact⟨HB4.trans (HX.mono (by have:=HB4.size;omega)),_,_,rfl,Or.inr ⟨rfl,HRES.out,HRES2.out⟩⟩
  ·intro x c kl yd yp w2 cnt1 hkey hlx hv hat hrg1 hlt hg1 hs1 hen
   obtain⟨x',ex,rfl,hwx⟩:=Maps.keyOf_int_inv Tryz.underlying2 hkey;cases ex;obtain⟨c',ec,ey⟩:=JN hv;obtain⟨rfl,rfl⟩:=Prod.mk.inj ey;have hcc:=ZhY ec;subst hcc;obtain⟨m,hmL,hmx⟩:=(hm.keys (.int .i64 x)).1 (has_true_of_atKey (y:=TX c) hat);have hmx':x=m.to:=by simpa using hmx
   have hcp:c=cpI m:=Zae (by rw[<-hm.at_ m hmL (.lit (.bool true)),<-hmx];exact(hat _).symm);obtain⟨k,a,hk,hk1,hk2⟩:=ZbI m;have HK:=Xa hk;rw[hk]at hcp;subst hmx' hcp;unfold KE at *;clear hmx ey ec hv hat hk hwx;dsimp only at *;have hRl:R<wr.heap.size:=World.block_lt_of_cell? wr _ hR;have hGl:g<wr.heap.size:=World.block_lt_of_cell? wr _ hG;have hR2:=(Xc (o:=0) (hg1.block R hRl sP)).trans hR;have hG2:=(Xc (o:=0) (hg1.block g hGl (by simp;omega))).trans hG;have hZ2:∀q,w2.frozen? ⟨g,q,none⟩=false:=fun q=>by rw[World.frozen?_of_block (hg1.block g hGl (by simp;omega))];exact HZ.out q
   have hsz:=HB.size;have HB2:Hid (Below w.heap.size w w2):=Xa (HB.grown hg1 oM (fun j hj=>by cases hj;omega));have HRG1:=Xa hrg1;have HLT:=Xa hlt;clear hR hG HZ HB hg1 hrg1 hlt
   go_wp2_with fail
   have e2:(w2.alloc (.cells #[.int .i64 k,.int .i64 m.to,.int .i64 a,.int .i64 0,.int .i64 0] 54)).heap.size=w2.heap.size+1:=sP;have HI3:Hid (Yd (w2.alloc (.cells #[.int .i64 k,.int .i64 m.to,.int .i64 a,.int .i64 0,.int .i64 0] 54)) wr.heap.size 0 ⟨k,m.to,a,0,0⟩):=Xa (by rw[<-hs1];exact⟨sP,sP,sP,sP,sP⟩);have HB3:=Xa (Xb HB2.out (.cells #[.int .i64 k,.int .i64 m.to,.int .i64 a,.int .i64 0,.int .i64 0] 54));have HRG3:=Xa (HRG1.alloc (.cells #[.int .i64 k,.int .i64 m.to,.int .i64 a,.int .i64 0,.int .i64 0] 54));have hR3:(w2.alloc (.cells #[.int .i64 k,.int .i64 m.to,.int .i64 a,.int .i64 0,.int .i64 0] 54)).cell? ⟨R,0,none⟩=some (.slice (some ⟨g,0,none⟩) 1 1):=by rw[World.cell?_alloc_lt _ _ _ (by show R<_;omega)];exact hR2
   have hG3:(w2.alloc (.cells #[.int .i64 k,.int .i64 m.to,.int .i64 a,.int .i64 0,.int .i64 0] 54)).cell? ⟨g,0,none⟩=some (.int .u64 W):=by rw[World.cell?_alloc_lt _ _ _ (by show g<_;omega)];exact hG2
   have hZ3:Hid (∀q,(w2.alloc (.cells #[.int .i64 k,.int .i64 m.to,.int .i64 a,.int .i64 0,.int .i64 0] 54)).frozen? ⟨g,q,none⟩=false):=Xa (fun q=>by rw[World.frozen?_alloc_old _ _ _ (by show g≠_;omega)];exact hZ2 q);generalize w2.alloc (.cells #[.int .i64 k,.int .i64 m.to,.int .i64 a,.int .i64 0,.int .i64 0] 54)=W3 at *;clear hR2 hG2 hZ2 HB2 HRG1;have HT3:Hid (XQ W3):=Xa (ht.keep HB3.out ht.1);have HRD:Hid (Calls Tryz.prog 136 #[.pointer (some ⟨wr.heap.size,0,none⟩)] W3.drew fun e w5=>∃a5 n5 c5,e=.returned (.slice a5 n5 c5)/\w5.cell? ⟨R,0,none⟩=some (.slice (some ⟨g,0,none⟩) 1 1)/\Hid (Calls Tryz.prog 144 #[.agg #[.slice (some ⟨g,0,none⟩) 1 1],.slice a5 n5 c5] w5 fun e w7=>e=.returned (.tuple #[])/\w7.cell? ⟨R,0,none⟩=some (.slice (some ⟨g,0,none⟩) 1 1)/\Hid (Zkl L m g R W W3 w7))):=Xa (by
    refine(Zgl wr.heap.size k m.to a 0 0 W3.drew HI3 hk1 hk2 HT3).mono ?_;rintro e w5 ⟨v5,rfl,hb5,ho5⟩;have hb5':Below W3.heap.size W3 w5:=⟨hb5.os,hb5.tape,hb5.output,hb5.size,hb5.block⟩;rw[<-HK.out,ZgK]at ho5;obtain⟨a5,c5,rfl,hv5⟩:=Zb ho5;have hs5:=hb5'.size;refine⟨a5,_,c5,rfl,(hb5'.cell (p:=⟨R,0,none⟩) (by show R<_;omega)).trans hR3,Xa ?_⟩;refine(Ziy g W _ c5 a5 (JB m) W3.heap.size w5.heap.size w5 (Xa ?_) (Xa sP) (by simp;unfold JB;split<;>simp) (Xa (Zh1 (hg.frm m hmL))) HW.out ((Xu hb5' oM).trans hG3) (fun q=>by rw[World.frozen?_of_block (hb5'.block g oM)];exact hZ3.out q) (Nat.le_refl _) oM).mono ?_
    ·intro i hi
     obtain⟨b5,o5,e5,hb5,hc5⟩:=hv5 i (by simpa using hi);exact⟨b5,o5,e5,hb5,by rw[hc5];simp⟩
    ·rintro e w7 ⟨rfl,hg7,hlt7,hc7,hz7⟩
     exact⟨rfl,(Xc (hg7.block R oM (by simp;omega))).trans ((Xu hb5' oM).trans hR3),Xa ⟨((calm hb5').but (some g)).andThen hg7 (fun j hj=>by cases hj;exact Or.inr rfl),hlt7,hc7,hz7⟩⟩)
   clear HI3 HT3 hG3 hZ3
   go_region_held3 (fun w'=>w'.cell? ⟨R,0,none⟩=some (.slice (some ⟨g,0,none⟩) 1 1)) (go_keep)
    (first
     | (go_at_call 136;with_reducible refine HRD.out.mono ?_;rintro e w5 ⟨a5,n5,c5,rfl,f5,HA5⟩)
     | (go_at_call 144;with_reducible refine HA5.out.mono ?_;rintro e w7 ⟨rfl,f7,HO7⟩))
   all_goals
    have HRG4:=Xa (HRG3.kept HO7.grown (by simp;omega) (by simp;omega))
    go_roundw
    case rel=>exact⟨_,_,_,_,_,_,_,_,⟨_,cnt1,_,HRG4,Xa (HB3.grown HO7.grown oM (fun j hj=>by cases hj;exact hg1')),f7,Xa HO7.lt,HO7.cell,Xa HO7.thaw,Xa (fun t=>by rw[Zfk,HV.out t];exact(ZgN hg.nd hmL t).symm)⟩,rfl⟩
    case measure=>rw[HRG4.left_eq,HRG.left_eq];exact HLT.out
def ZD(L:List Mv)(r:Int)(S:List Int):List Mv:=L.map fun m=>if m.frm=r/\m.to∈S then ⟨m.to,-1⟩else m
theorem ZgQ(L:List Mv)(r:Int):ZD L r []=L:=by simp[ZD]
theorem ZhF{L:List Mv}(r:Int){S:List Int}(h:∀m∈L,m.to∈S):ZD L r S=scratch L r:=by
 refine List.map_congr_left (fun m hm=>?_);simp[h m hm]
theorem Zjj{L:List Mv}(r:Int){S:List Int}{m:Mv}(hm:m∈L)(h:m.to ∉ S):m∈ZD L r S:=List.mem_map.2 ⟨m,hm,if_neg (fun e=>h e.2)⟩
theorem ZgL{L:List Mv}{r:Int}{S:List Int}{m:Mv}(hn:(Yg L).Nodup)(hm:m∈L)(h:m.frm=r\/m.frm=-1):JP (ZD L r S) m.to=ZD L r (S++[m.to]):=by
 unfold JP ZD;rw[List.map_map];refine List.map_congr_left (fun q hq=>?_);show(if (if q.frm=r/\q.to∈S then (⟨q.to,-1⟩:Mv)else q).to=m.to then (⟨(if q.frm=r/\q.to∈S then (⟨q.to,-1⟩:Mv)else q).to,-1⟩:Mv)else (if q.frm=r/\q.to∈S then (⟨q.to,-1⟩:Mv)else q))=_;have hto:(if q.frm=r/\q.to∈S then (⟨q.to,-1⟩:Mv)else q).to=q.to:=by split<;>rfl
 rw[hto];by_cases e:q.to=m.to
 ·have:=Zen hn hq hm e
  subst this;rw[if_pos rfl];by_cases hr:q.frm=r
  ·rw[if_pos ⟨hr,sP⟩]
  ·rw[if_neg (fun e=>hr e.1)]
   rcases h with h | h
   ·exact absurd h hr
   ·cases q;simp_all
 ·rw[if_neg e]
  simp[e]
theorem Zfh{L:List Mv}{r:Int}{S:List Int}{m:Mv}(hn:(Yg L).Nodup)(hm:m∈L)(h:m.frm≠r):ZD L r (S++[m.to])=ZD L r S:=by
 refine List.map_congr_left (fun q hq=>?_);by_cases e:q.to=m.to
 ·have:=Zen hn hq hm e
  subst this;rw[if_neg (fun e=>h e.1),if_neg (fun e=>h e.1)]
 ·simp[e]
theorem Zho(L:List Mv)(r:Int)(S:List Int):Yg (ZD L r S)=Yg L:=by
 unfold Yg ZD;rw[List.map_map];refine List.map_congr_left (fun m _=>?_);show(if m.frm=r/\m.to∈S then (⟨m.to,-1⟩:Mv)else m).to=m.to;split<;>rfl
theorem Zfu{w:World}{b n n':Nat}{D:DataW Unit}(h:w.ownsMap Tryz.prog 2 YX b n D)(hs:Maps.size D<=n'):w.ownsMap Tryz.prog 2 YX b n' D:=by
 obtain⟨es,clock,hb,F,h1,rfl⟩:=h;exact⟨es,clock,hb,F,by simpa [Maps.size,length_sorted]using hs,rfl⟩
theorem ZgA{w:World}{b n:Nat}{D:DataW Unit}(h:w.ownsMap Tryz.prog 2 YX b n D):∀es,D=.map es->∀p∈es,WideAt.IsKeyLit p.1:=fun es he p hp=>by
 obtain⟨es',e1,_,e3⟩:=h.entries Tryz.keyI;rw[he]at e1;injection e1 with e1;subst e1;exact e3 p hp
theorem Zj0(k t a:Int)(W:World):(Instr.field 54 (.agg #[.int .i64 k,.int .i64 t,.int .i64 a,.int .i64 0,.int .i64 0]) 2).run Tryz.prog W=.ok (.int .i64 a) W:=vZ
theorem Zl3(m:Mv)(h:m.frm=-1\/(0<=m.frm/\m.frm<64))(r:Int)(hr:0<=r):((cpI m).a=r/\(m.frm=r\/m.frm=-1))\/((cpI m).a≠r/\m.frm≠r):=by
 unfold cpI;split
 ·show((0:Int)=r/\_)\/((0:Int)≠r/\_)
  omega
 ·show(m.frm=r/\_)\/(m.frm≠r/\_)
  omega
theorem Vw(b:Nat)(D:DataW Unit)(L:List Mv)(r:Int)(w:World)(hown:Hid (w.ownsMap Tryz.prog 2 YX b 64 D))(hm:Hid (Ze D L))(hg:Hid (ZC L))(hr:0<=r) :
 Calls Tryz.prog 121 #[.map (some b),.int .i64 r] w fun e w'=>e=.returned (.tuple #[])/\w.grownBy w' (some b)/\∃D',w'.ownsMap Tryz.prog 2 YX b 64 D'/\Ze D' (scratch L r):=by
 have hbl:=hown.lt;have hln:L.length<=64:=by rw[<-hm.size];exact hown.size_le
 have HS:=Xa (ZaM b 64 D L w hown.out hown.size_le (hm.perm hg.nd (ZgA hown.out)));have HK:=Xa (ZbZ (some b) w)
 go_enter Tryz.func121,Tryz.ntmps121
 go_wp2_with (first
  | (go_at_call 146;with_reducible refine HK.out.mono ?_;rintro e w3 ⟨rfl,hw3⟩;rw[hw3];clear hw3 w3)
  | (go_at_call 145;with_reducible refine HS.out.mono ?_;rintro e w4 ⟨a4,c4,ss,rfl,hp,hv4,hb4⟩))
 have HV4:Hid (Yk w4 w.heap.size w4.heap.size a4 ((XP ss).map encZ)):=Xa hv4;have HKL:Hid ((XP ss).length=L.length):=Xa (VQ hp.out);have HB4:=Xa hb4;have hw4:=hb4.size;have HN:Hid ((XP ss).Nodup):=Xa (((Zy ss).trans hp.out).nodup_iff.2 hg.nd);clear hv4 hb4 HS HK;have HO4:Hid (w4.ownsMap Tryz.prog 2 YX b 64 D):=Xa (hown.kept (calm HB4.out) sP);have HG4:Hid (w.grownBy w4 (some b)):=Xa ((calm HB4.out).but _);generalize hnl:L.length=nl at *;have HNL:=Xa hnl;clear hnl
 go_loopw [10] (fun u wr=>∃(q:Nat)(D1:DataW Unit),q<=nl/\u=.int .i64 q/\Hid (w4.grownBy wr (some b))/\Hid (wr.ownsMap Tryz.prog 2 YX b 64 D1)/\Hid (Ze D1 (ZD L r ((XP ss).take q)))) (fun u _=>nl-(RowKit.intOf u).toNat)
 case atStart=>exact⟨0,D,Nat.zero_le _,rfl,Xa ((calm (Below.refl _ _)).but _),HO4,Xa (by rw[List.take_zero,ZgQ];exact hm.out)⟩
 case round =>
  obtain⟨q,D1,hq,rfl,HG,HO,HM⟩:=hrel;by_cases hlt:q<nl
  ·have hqk:q<(XP ss).length:=by have:=HKL.out;omega
   obtain⟨b4,o4,rfl,hbb,hc4⟩:=HV4.out q (by simpa using hqk);have hc5:=(Xc (o:=o4+q) (HG.block b4 hbb.2 (by simp;omega))).trans hc4;rw[List.getElem_map]at hc5;have htm:=(VN hp.out).1 (List.getElem_mem hqk);obtain⟨m,hmL,hmt⟩:=List.mem_map.1 htm;have HT:Hid ((XP ss).take (q+1)=(XP ss).take q++[m.to]):=Xa (by rw[hmt];exact List.take_succ_eq_append_getElem hqk);have hni:m.to ∉ (XP ss).take q:=fun hin=>by
    obtain⟨j,hj,e⟩:=List.getElem_of_mem hin;rw[List.length_take]at hj;rw[List.getElem_take]at e;have:=List.pairwise_iff_getElem.1 HN.out j q oM hqk oM;exact this (by rw[e,hmt])
   rw[<-hmt]at hc5;have hc6:wr.cell? ⟨b4,o4+q,none⟩=some (.int .i64 m.to):=hc5;clear hc5;have hto:=hg.to m hmL;have hlk:=ZbX HO.out HM.out (Zjj r hmL hni) oM;have hfr:=hg.frm m hmL;have HCA:=Xa (Zl3 m hfr r hr);obtain⟨k,a,hk,hk1,hk2⟩:=ZbI m;rw[hk]at hlk HCA;unfold KE at hlk;dsimp only at hlk HCA;have HKT:=Xa (Wu m.to oM);have HSZ:Hid (Maps.size D1<=64):=Xa HO.size_le;have hlen:(ZD L r ((XP ss).take (q+1))).length<=64:=by unfold ZD;rw[List.length_map,HNL.out];exact hln
   have HLEN:=Xa hlen;have hfl:=Zj0 k m.to a wr;clear hc4 htm hmt hk hni hlen;by_cases hca:a=r
   ·have hor:m.frm=r\/m.frm=-1:=by rcases HCA.out with h | h;exact h.2;exact absurd hca h.1
    have HP:=Xa (ZgL (S:=(XP ss).take q) hg.nd hmL hor);have hin:(ZD L r ((XP ss).take q)).any (fun z=>z.to==m.to)=true:=by
     have:m.to∈Yg (ZD L r ((XP ss).take q)):=by rw[Zho];exact List.mem_map.2 ⟨m,hmL,rfl⟩
     obtain⟨z,hz,e⟩:=List.mem_map.1 this;exact List.any_eq_true.2 ⟨z,hz,by simpa using e⟩
    have HM2:Hid (Ze (D1.put (.int .i64 m.to) (TX ⟨13,m.to,0,0,0⟩)) (ZD L r ((XP ss).take (q+1)))):=Xa (by rw[HT.out,<-HP.out];exact HM.put_old hin);have hab:(a==r)=true:=by simpa using hca
    clear HCA hor hin hca HP
    go_wp2_with (at_mapUpdate;refine wpList_mapUpdate_own _ rfl _ _ _ 207 rfl 2 54 Tryz.keyI Tryz.tMap YX b 64 D1 rfl HO.out (by unfold maxLen;omega) _ _ _ rfl rfl HKT.out (TX ⟨13,m.to,0,0,0⟩) [] rfl ?_;intro w3 hown3 hg3)
    exact⟨⟨q+1,_,oM,gM,Xa (HG.andThen hg3 (fun j hj=>by cases hj;exact Or.inr rfl)),Xa (Zfu hown3 (by rw[HM2.size];exact HLEN.out)),HM2⟩,by simp[RowKit.intOf];omega⟩
   ·have hnr:m.frm≠r:=by rcases HCA.out with h | h;exact absurd h.1 hca;exact h.2
    have HP:=Xa (Zfh (S:=(XP ss).take q) hg.nd hmL hnr);have hab:(a==r)=false:=by simpa using hca
    have HM2:Hid (Ze D1 (ZD L r ((XP ss).take (q+1)))):=Xa (by rw[HT.out,HP.out];exact HM.out);clear HCA hnr hca HP;go_wp2;exact⟨⟨q+1,_,oM,gM,HG,HO,HM2⟩,by simp[RowKit.intOf];omega⟩
  ·have hqn:q=nl:=oM
   have HM2:Hid (Ze D1 (scratch L r)):=Xa (by
    have:=HM.out;rw[List.take_of_length_le (by have:=HKL.out;omega),ZhF r (fun m hm=>(VN hp.out).2 (List.mem_map.2 ⟨m,hm,rfl⟩))]at this;exact this)
   go_wp2
   go_end0
   exact⟨rfl,HG4.andThen HG.out (fun j hj=>by cases hj;exact Or.inr rfl),D1,HO.out,HM2.out⟩
def Zis:Value->Nat
 | .slice _ n _=>n
 | _=>0
theorem ZaX{w:World}{base e s n:Nat}{v:Value}{cs:List Value}(h:w.ownsRow base e s v n cs):Zis v=n:=by
 rcases XU h with⟨rfl,h0,_⟩ | ⟨g,c,rfl,_,_⟩
 ·rw[h0];rfl
 ·rfl
theorem ZeA(w:World)(k t a b i:Int)(ty:Nat):∀j u,([.int .i64 k,.int .i64 t,.int .i64 a,.int .i64 b,.int .i64 i]:List Value)[j]?=some u->(w.alloc (.cells #[.int .i64 k,.int .i64 t,.int .i64 a,.int .i64 b,.int .i64 i] ty)).cell? ((⟨w.heap.size,0,none⟩:Addr).add j)=some u:=fun j u hj=>by
 rw[Zo]
 match j,hj with
 | 0,hj=>simpa using hj
 | 1,hj=>simpa using hj
 | 2,hj=>simpa using hj
 | 3,hj=>simpa using hj
 | 4,hj=>simpa using hj
theorem ZdL{w:World}{b e s n:Nat}{v:Value}{cs:List Value}(h:w.ownsRow (b+1) e s v n cs):some b≠v.ownBlock:=fun e=>by
 have:=(h.lt b e.symm).1;omega
theorem Zhu(k t a b i:Int):∀u∈([.int .i64 k,.int .i64 t,.int .i64 a,.int .i64 b,.int .i64 i]:List Value),u.oneCell'=true:=fun u hu=>by
 simp at hu;rcases hu with rfl | rfl | rfl | rfl | rfl<;>rfl
structure Zl1(w W w':World)(v v':Value)(D:DataW Unit)(out:List XN)(x:XN):Prop where
 row:w'.ownsRow (w.heap.size+1) 54 5 v' (out++[x]).length (Y1 (out++[x]))
 ne:v'≠.slice none 0 0
 map:w'.ownsMap Tryz.prog 2 YX w.heap.size 64 D
 below:Below w.heap.size w w'
theorem ZkO{w wr w3 w4:World}{v v1:Value}{D:DataW Unit}{out:List XN}{k t a b i:Int}{o:Obj}(HB:Below w.heap.size w wr)(HM3:w3.ownsMap Tryz.prog 2 YX w.heap.size 64 D)(HO3:w3.ownsRow (w.heap.size+1) 54 5 v out.length (Y1 out))(hb3:Below wr.heap.size wr w3)(hv:v≠.slice none 0 0)
 (hown:w4.ownsRow (w.heap.size+1) 54 5 v1 (out.length+1) (Y1 out++[.int .i64 k,.int .i64 t,.int .i64 a,.int .i64 b,.int .i64 i])) (hg:(w3.alloc o).grownBy w4 v.ownBlock) (hne:v1=.slice none 0 0↔v=.slice none 0 0/\1=0):Zl1 w wr w4 v v1 D out ⟨k,t,a,b,i⟩:=by
 have h1:=HB.size;have h2:=hb3.size;have hwl:=HM3.lt;refine⟨?_,fun e=>hv (hne.1 e).1,(HM3.alloc o).kept hg (ZdL HO3),?_⟩
 ·rw[Z9,List.length_append];exact hown
 ·exact Xr ((HB.trans (hb3.mono h1)).alloc oM o) hg (HO3.alloc o) (Nat.le_succ _) (by simp;omega)
theorem ZdY{L:List Mv}(h:ZC L){m:Mv}(hm:m∈L)(hl:Zm (ZL L)=some m.to):YE L=(cpI m,without L m.to):=by
 unfold YE;rw[hl];obtain⟨i,hi,rfl⟩:=List.getElem_of_mem hm;show(cpI ⟨_,Zbe L _⟩,_)=_;rw[ZeJ h hi]
theorem Zew{L:List Mv}{t:Int}(h1:Zm (ZL L)=none)(h2:Zm (Yg L)=some t):YE L=(⟨12,0,t,0,0⟩,scratch L t):=by
 unfold YE;rw[h1];dsimp only;rw[h2]
theorem Zgv(b:Nat)(D:DataW Unit)(L:List Mv)(w:World)(t:Int)(hown:Hid (w.ownsMap Tryz.prog 2 YX b 64 D))(hm:Hid (Ze D L))(hg:Hid (ZC L))(hne:Hid (L≠[]))(ht:Hid (XQ w))(hl:Zm (ZL L)=some t) :
 Calls Tryz.prog 120 #[.map (some b)] w fun e w'=>e=.returned (.tuple #[.int .i64 t,.bool true])/\Below w.heap.size w w':=by
 refine(JV b 64 D L w hown (Nat.le_refl _) hm hg hne ht).mono ?_;rintro e w' ⟨hb,t',f,rfl,⟨rfl,h⟩ | ⟨rfl,h,_⟩⟩
 ·rw[hl]at h;cases h;exact⟨rfl,hb⟩
 ·rw[hl]at h;cases h
theorem ZiT(b:Nat)(D:DataW Unit)(L:List Mv)(w:World)(t:Int)(hown:Hid (w.ownsMap Tryz.prog 2 YX b 64 D))(hm:Hid (Ze D L))(hg:Hid (ZC L))(hne:Hid (L≠[]))(ht:Hid (XQ w))(hl:Zm (ZL L)=none)(hl2:Zm (Yg L)=some t) :
 Calls Tryz.prog 120 #[.map (some b)] w fun e w'=>e=.returned (.tuple #[.int .i64 t,.bool false])/\Below w.heap.size w w':=by
 refine(JV b 64 D L w hown (Nat.le_refl _) hm hg hne ht).mono ?_;rintro e w' ⟨hb,t',f,rfl,⟨rfl,h⟩ | ⟨rfl,_,h⟩⟩
 ·rw[hl]at h;cases h
 ·rw[hl2]at h;cases h;exact⟨rfl,hb⟩
theorem ZhN(a:Option Addr)(n c:Nat)(xs:List Mv)(L B:Nat)(w:World)(ha:Hid (Jw w L B a xs))(hx:Hid (n=xs.length))(hn:n<=1048576)(hB:B<=w.heap.size)(hr:Hid (∀m∈xs,-9223372036854775808<=m.to/\m.to<=9223372036854775807))(ht:Hid (XQ w)) :
 Calls Tryz.prog 79 #[.slice a n c] w fun e w'=>∃v,e=.returned v/\v≠.slice none 0 0/\Below w.heap.size w w'/\w'.ownsRow w.heap.size 54 5 v (JA xs).length (Y1 (JA xs)):=by
 have HML:=Xa (Zal a n c xs L B w ha hx hn hB hr);cases hgm:Yy xs with
 | false =>
  have HS:Hid (JA xs=[]):=Xa (by unfold JA;rw[hgm];rfl);rw[hgm]at HML;clear hgm
  go_enter Tryz.func79,Tryz.ntmps79
  go_wp2_with (go_at_call 119;with_reducible refine HML.out.mono ?_;rintro e w1 ⟨hb1,rfl,_⟩)
  have HB2:Hid (Below w.heap.size w (w1.alloc (.cells #[] 54))):=Xa (hb1.alloc hb1.size _);have HO2:=Xa (X9 (Tv w1) hb1.size);generalize w1.alloc (.cells #[] 54)=W2 at *;generalize w1.heap.size=g at *;clear hb1
  go_loopw [5] (fun v wr=>v=.slice (some ⟨g,0,none⟩) 0 0/\wr=W2) (fun _ _=>0)
  case atStart=>exact⟨rfl,rfl⟩
  case round =>
   obtain⟨rfl,rfl⟩:=hrel;go_wp2
   go_ret
   exact⟨_,rfl,sP,HB2.out,by rw[HS.out];exact HO2.out⟩
 | true =>
  obtain⟨h64,hgood⟩:=TQ hgm;obtain⟨hok,hms⟩:=hgood.start;have HS:Hid (JA xs=XI (Js (startM xs)) (startM xs)):=Xa (by unfold JA;rw[if_pos hgm,hms]);have HSL:Hid ((JA xs).length<=128):=Xa (by
   rw[HS.out];refine Nat.le_trans (JF _ _) ?_;rw[hms];have:(startM xs).length<=xs.length:=List.length_filter_le _ _;omega)
  have HOK:=Xa hok;rw[hgm]at HML;clear hgm hgood hok hms h64;obtain⟨i0,hi0,hz0,hz1,hz2⟩:=info_parts Tryz.infoIn
  go_enter Tryz.func79,Tryz.ntmps79
  go_wp2_with (go_at_call 119;with_reducible refine HML.out.mono ?_;rintro e w1 ⟨hb1,rfl,h1⟩)
  obtain⟨D0,ho1,hm1⟩:=h1 trivial;have hlt1:=ho1.lt;have HB2:Hid (Below w.heap.size w (w1.alloc (.cells #[] 54))):=Xa (hb1.alloc hb1.size _);have HO2:Hid ((w1.alloc (.cells #[] 54)).ownsRow (w.heap.size+1) 54 5 (.slice (some ⟨w1.heap.size,0,none⟩) 0 0) 0 (Y1 [])):=Xa (X9 (Tv w1) hlt1);have HM2:=Xa (ho1.alloc (.cells #[] 54));have HM1:=Xa hm1;generalize w1.alloc (.cells #[] 54)=W2 at *;generalize w1.heap.size=g at *;clear hb1 ho1 h1 hm1
  go_loopw [5] (fun v wr=>∃(D:DataW Unit)(K:List Mv)(out:List XN),Hid (wr.ownsMap Tryz.prog 2 YX w.heap.size 64 D)/\Hid (Ze D K)/\Hid (ZC K)/\Hid (Below w.heap.size w wr)/\Hid (wr.ownsRow (w.heap.size+1) 54 5 v out.length (Y1 out))/\Hid (v≠.slice none 0 0)/\Hid (JA xs=out++XI (Js K) K)) (fun v _=>200-Zis v)
  case atStart=>exact⟨D0,startM xs,[],HM2,HM1,HOK,HB2,HO2,Xa sP,Xa (by rw[HS.out];rfl)⟩
  case round =>
   clear HB2 HO2 HM2 HM1 HOK;obtain⟨D,K,out,HM,HK,HOK,HB,HO,HNE,HE⟩:=hrel;have hlen:=HM.len Tryz.tMap 3;rw[HK.size]at hlen;have hwz:=HB.size;have hwl:=HM.lt;have HT:Hid (XQ wr):=Xa (ht.keep HB.out ht.1);by_cases hK:K=[]
   ·subst hK
    have HE2:Hid (JA xs=out):=Xa (by rw[HE.out,Th,List.append_nil]);rw[List.length_nil]at hlen;go_wp2
    go_ret
    exact⟨_,rfl,HNE.out,HB.out,by rw[HE2.out];exact X9 HO.out oM⟩
   ·have hKl:0<K.length:=List.length_pos_iff.2 hK
    have HRUN:=Xa (Zhf HOK.out hK);have HLN:=Xa (ZaX HO.out);have HOL:Hid (out.length+1<=128):=Xa (by
     have h1:=HSL.out;rw[HE.out,HRUN.out]at h1;simp at h1;omega)
    have HKN:Hid (K≠[]):=Xa hK;clear hK;generalize K.length=nk at *;cases hlo:Zm (ZL K)with
    | some t =>
     have htm:=(List.mem_filter.1 (Je hlo).1).1;obtain⟨m,hmK,rfl⟩:=List.mem_map.1 htm;have HST:=Xa (ZdY HOK.out hmK hlo);have HF:=Xa (Zgv w.heap.size D K wr m.to HM HK HOK HKN HT hlo);have hto:=HOK.to m hmK;have HKT:=Xa (Wu m.to oM);obtain⟨k,x,hk,hk1,hk2⟩:=ZbI m;have HLK:Hid (∀W,W.ownsMap Tryz.prog 2 YX w.heap.size 64 D->(Instr.lookup 207 (.map (some w.heap.size)) (.int .i64 m.to) false).run Tryz.prog W=.ok (.agg #[.int .i64 k,.int .i64 m.to,.int .i64 x,.int .i64 0,.int .i64 0]) W):=Xa (fun W hW=>by
      have:=ZbX hW HK.out hmK oM;rw[hk]at this;exact this)
     rw[hk]at HST;have HDEL:=Xa (HK.del HOK.nd m.to);have HOK2:=Xa (HOK.without m.to);clear hlo htm hto hk
     go_wp2_with (first
      | (go_at_call 120;with_reducible refine HF.out.mono ?_;rintro e w3 ⟨rfl,hb3⟩;have HM3:=Xa (HM.out.kept (calm hb3) sP);have hlk:=HLK.out w3 HM3.out;have HO3:=Xa (HO.out.kept (calm hb3) (Classical.em _));have hs3:=hb3.size;have HB3:=Xa hb3;clear hb3)
      | (at_delete;refine wpList_delete_own _ rfl _ _ 207 2 rfl 54 Tryz.keyI Tryz.tMap YX w.heap.size 64 D rfl HGR.map _ _ rfl HKT.out ?_;intro w5 hown5 hturn5)
      | (at_builtin;refine wpList_append_own_at _ rfl _ _ 46 rfl (w.heap.size+1) 54 i0 (.agg #[.int .i64 0,.int .i64 0,.int .i64 0,.int .i64 0,.int .i64 0]) 5 40 Tryz.underlying46 hi0 hz0 hz1 hz2 rfl dC _ _ _ rfl (HO3.alloc _) ⟨w3.heap.size,0,none⟩ 1 1 [.int .i64 k,.int .i64 m.to,.int .i64 x,.int .i64 0,.int .i64 0] rfl rfl (ZeA _ _ _ _ _ _ _) (Zhu _ _ _ _ _) (by have:=HOL.out;unfold maxLen;omega) (by have:=HOL.out;omega) (by simp;omega) ?_;intro v1 w4 hown4 hg4 hne4 hat4;have HGR:=Xa (ZkO HB.out HM3.out HO3.out HB3.out HNE.out hown4 hg4 hne4);clear hown4 hg4 hne4 hat4 hlk)
      | go_in)
     have HLN1:=Xa (ZaX HGR.row);have HGT:=Xa hturn5.grown;refine⟨?_,?measure⟩
     (repeat apply Exists.intro)
     refine⟨?rel,rfl⟩;refine⟨_,without K m.to,out++[⟨k,m.to,x,0,0⟩],Xa hown5,HDEL,HOK2,Xa (HGR.below.grown HGT.out (Nat.le_trans (Nat.le_of_lt HGR.map.lt) (Nat.le_refl _)) (fun j hj=>by cases hj;exact Nat.le_refl _)),Xa (HGR.row.kept HGT.out (Or.inr (fun e=>ZdL HGR.row e.symm))),Xa HGR.ne,Xa ?_⟩
     ·rw[HE.out,HRUN.out,HST.out,List.append_assoc];rfl
     case measure=>have h1:=HLN.out;have h2:=HLN1.out;have h3:=HOL.out;rw[List.length_append]at h2;simp only[List.length_cons,List.length_nil]at h2;show 200-Zis v1<200-Zis u5;omega
    | none =>
     have htn:Yg K≠[]:=fun e=>HKN.out (by simpa [Yg]using e)
     obtain⟨t,hlt⟩:∃t,Zm (Yg K)=some t:=by
      cases h:Zm (Yg K)with
      | none=>exact absurd (ZI.1 h) htn
      | some t=>exact⟨t,rfl⟩
     obtain⟨m,hmK,rfl⟩:=List.mem_map.1 (Je hlt).1;have HST:=Xa (Zew hlo hlt);have HF:=Xa (ZiT w.heap.size D K wr m.to HM HK HOK HKN HT hlo hlt);have hto:=HOK.to m hmK;have HOK2:=Xa (HOK.scratch m.to);have hto0:=hto.1;clear hlo htn hto hlt
     go_wp2_with (first
      | (go_at_call 120;with_reducible refine HF.out.mono ?_;rintro e w3 ⟨rfl,hb3⟩;have HM3:=Xa (HM.out.kept (calm hb3) sP);have HO3:=Xa (HO.out.kept (calm hb3) (Classical.em _));have hs3:=hb3.size;have HB3:=Xa hb3;clear hb3)
      | (go_at_call 121;refine(Vw w.heap.size D K m.to _ (Xa HGR.map) HK HOK hto0).mono ?_;rintro e w5 ⟨rfl,hg5,D5,ho5,hm5⟩)
      | (at_builtin;refine wpList_append_own_at _ rfl _ _ 46 rfl (w.heap.size+1) 54 i0 (.agg #[.int .i64 0,.int .i64 0,.int .i64 0,.int .i64 0,.int .i64 0]) 5 40 Tryz.underlying46 hi0 hz0 hz1 hz2 rfl dC _ _ _ rfl (HO3.alloc _) ⟨w3.heap.size,0,none⟩ 1 1 [.int .i64 12,.int .i64 0,.int .i64 m.to,.int .i64 0,.int .i64 0] rfl rfl (ZeA _ _ _ _ _ _ _) (Zhu _ _ _ _ _) (by have:=HOL.out;unfold maxLen;omega) (by have:=HOL.out;omega) (by simp;omega) ?_;intro v1 w4 hown4 hg4 hne4 hat4;have HGR:=Xa (ZkO HB.out HM3.out HO3.out HB3.out HNE.out hown4 hg4 hne4);clear hown4 hg4 hne4 hat4)
      | go_in)
     have HLN1:=Xa (ZaX HGR.row);have HGT:=Xa hg5;refine⟨⟨_,scratch K m.to,out++[⟨12,0,m.to,0,0⟩],Xa ho5,Xa hm5,HOK2,Xa (HGR.below.grown HGT.out (Nat.le_of_lt HGR.map.lt) (fun j hj=>by cases hj;exact Nat.le_refl _)),Xa (HGR.row.kept HGT.out (Or.inr (fun e=>ZdL HGR.row e.symm))),Xa HGR.ne,Xa ?_⟩,?_⟩
     ·rw[HE.out,HRUN.out,HST.out,List.append_assoc];rfl
     ·have h1:=HLN.out;have h2:=HLN1.out;have h3:=HOL.out;rw[List.length_append]at h2;simp only[List.length_cons,List.length_nil]at h2;omega
end Go.Proofs.YtlmgmkmomaileaaGreatDoor
