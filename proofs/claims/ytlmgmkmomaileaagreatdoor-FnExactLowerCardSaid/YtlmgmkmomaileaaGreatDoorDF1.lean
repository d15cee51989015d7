import Derived.Test.YtlmgmkmomaileaaGreatDoorNSb
import Derived.Test.YtlmgmkmomaileaaGreatDoorW10
namespace Go.Proofs.YtlmgmkmomaileaaGreatDoor
set_option maxHeartbeats 2000000
set_option maxRecDepth 100000
open Go.RowKit
def KN(L:List Nat):List Value:=L.map fun (x:Nat)=>Value.int .i64 (x:Int)
theorem Za6(L:List Nat)(x:Nat):KN (L++[x])=KN L++[.int .i64 (x:Int)]:=by simp[KN]
theorem Zdj(w:World)(b ty:Nat):Xf (w.alloc (.cells #[.int .i64 (b:Int)] ty)) w.heap.size (w.heap.size+1) (some ⟨w.heap.size,0,none⟩) ([b].map Int.ofNat):=fun i hi=>by
 have:i=0:=by simpa using hi
 subst this;exact⟨_,0,rfl,⟨Nat.le_refl _,Nat.lt_succ_self _⟩,sP⟩
theorem Ke(t:Zu):t.targets.length<=2:=by
 unfold Zu.targets;split
 ·simp
 ·split<;>simp
structure YN(w:World)(bS gS BL K:Nat)(ab:Option Addr)(nb cb:Nat)(W:Nat->Nat)(v:Value)(L:List Nat):Prop where
 c0:w.cell? ⟨bS,0,none⟩=some (.slice ab nb cb)
 c1:w.cell? ⟨bS,1,none⟩=some (.slice (some ⟨gS,0,none⟩) K K)
 c2:w.cell? ⟨bS,2,none⟩=some v
 thaw:∀q,w.frozen? ⟨bS,q,none⟩=false
 row:w.rowIs gS 145 K (fun i=>.int .u64 (W i))
 own:w.ownsRow BL 2 1 v L.length (KN L)
 lb:bS<BL
 lg:gS<BL
 ne:bS≠gS
 sz:BL<=w.heap.size
structure Uw(w w':World)(bS gS:Nat)(v v':Value):Prop where
 os:w'.os=w.os
 tape:w'.tape=w.tape
 output:w'.output=w.output
 size:w.heap.size<=w'.heap.size
 block:∀k,k<w.heap.size->k≠bS->k≠gS->some k≠v.ownBlock->w'.heap[k]?=w.heap[k]?
 own:v'.ownBlock=v.ownBlock\/∀k,v'.ownBlock=some k->w.heap.size<=k
theorem Uw.refl(w:World)(bS gS:Nat)(v:Value):Uw w w bS gS v v:=⟨rfl,rfl,rfl,Nat.le_refl _,fun _ _ _ _ _=>rfl,Or.inl rfl⟩
theorem Uw.trans{w w1 w2:World}{bS gS:Nat}{v v1 v2:Value}(h:Uw w w1 bS gS v v1)(k:Uw w1 w2 bS gS v1 v2):Uw w w2 bS gS v v2:=by
 refine⟨k.os.trans h.os,k.tape.trans h.tape,k.output.trans h.output,Nat.le_trans h.size k.size,fun j h1 h2 h3 h4=>?_,?_⟩
 ·refine(k.block j (Nat.lt_of_lt_of_le h1 h.size) h2 h3 (fun e=>?_)).trans (h.block j h1 h2 h3 h4)
  rcases h.own with ho | ho
  ·exact h4 (by rw[e,ho])
  ·have:=ho j e.symm;omega
 ·rcases k.own with ko | ko
  ·rcases h.own with ho | ho
   ·exact Or.inl (ko.trans ho)
   ·exact Or.inr (fun j e=>ho j (by rw[<-ko];exact e))
  ·exact Or.inr (fun j e=>Nat.le_trans h.size (ko j e))
theorem Uw.of_below{w w':World}{bS gS:Nat}{v:Value}(h:Below w.heap.size w w'):Uw w w' bS gS v v:=⟨h.os,h.tape,h.output,h.size,fun k h1 _ _ _=>h.block k h1,Or.inl rfl⟩
theorem Uw.of_grown{w w':World}{bS gS:Nat}{v:Value}(h:w.grownBy w' (some gS)):Uw w w' bS gS v v:=⟨h.os,h.tape,h.output,h.size,fun k h1 _ h3 _=>h.block k h1 (fun e=>h3 (by injection e)),Or.inl rfl⟩
theorem YN.below{w w':World}{bS gS BL K:Nat}{ab:Option Addr}{nb cb:Nat}{W:Nat->Nat}{v:Value}{L:List Nat}(h:YN w bS gS BL K ab nb cb W v L)(k:Below w.heap.size w w'):YN w' bS gS BL K ab nb cb W v L:=by
 have hz:=h.sz;have hb:w'.heap[bS]?=w.heap[bS]?:=k.block bS (by have:=h.lb;omega);have ce:∀q,w'.cell? ⟨bS,q,none⟩=w.cell? ⟨bS,q,none⟩:=fun q=>World.cell?_of_block hb
 refine⟨(ce 0).trans h.c0,(ce 1).trans h.c1,(ce 2).trans h.c2,fun q=>(World.frozen?_of_block hb).trans (h.thaw q),h.row.of_block (k.block gS (by have:=h.lg;omega)),?_,h.lb,h.lg,h.ne,Nat.le_trans hz k.size⟩;refine h.own.kept (row:=none) ⟨k.os,k.tape,k.output,k.size,fun j hj _=>k.block j hj⟩ ?_;cases v.ownBlock with
 | none=>exact Or.inl rfl
 | some j=>exact Or.inr sP
theorem YN.seen{w w':World}{bS gS BL K:Nat}{ab:Option Addr}{nb cb:Nat}{W W':Nat->Nat}{v:Value}{L:List Nat}(h:YN w bS gS BL K ab nb cb W v L)(k:w.grownBy w' (some gS))(hr:w'.rowIs gS 145 K (fun i=>.int .u64 (W' i))):YN w' bS gS BL K ab nb cb W' v L:=by
 have hz:=h.sz;have hb:w'.heap[bS]?=w.heap[bS]?:=k.block bS (by have:=h.lb;omega) (fun e=>h.ne (by injection e));have ce:∀q,w'.cell? ⟨bS,q,none⟩=w.cell? ⟨bS,q,none⟩:=fun q=>World.cell?_of_block hb
 exact⟨(ce 0).trans h.c0,(ce 1).trans h.c1,(ce 2).trans h.c2,fun q=>(World.frozen?_of_block hb).trans (h.thaw q),hr,Zf3 h.own k h.lg,h.lb,h.lg,h.ne,Nat.le_trans hz k.size⟩
theorem YN.push{w w8:World}{bS gS BL K:Nat}{ab:Option Addr}{nb cb:Nat}{W:Nat->Nat}{v v8:Value}{L:List Nat}{b:Nat}{ob:Obj}(h:YN w bS gS BL K ab nb cb W v L)(hg:(w.alloc ob).grownBy w8 v.ownBlock)(ho:w8.ownsRow BL 2 1 v8 (L.length+1) (KN L++[.int .i64 (b:Int)]))(hat:v8.ownBlock=v.ownBlock\/v8.ownBlock=some (w.heap.size+1)) :
 YN (w8.setCell ⟨bS,2,none⟩ v8) bS gS BL K ab nb cb W v8 (L++[b])/\Uw w (w8.setCell ⟨bS,2,none⟩ v8) bS gS v v8/\w8.cell? ⟨bS,2,none⟩=some v/\w8.frozen? ⟨bS,2,none⟩=false:=by
 have hz:=h.sz;have hlb:=h.lb;have hlg:=h.lg;have hsz:(w.alloc ob).heap.size=w.heap.size+1:=World.size_alloc _ _;have hgs:=hg.size;have hnv:∀k,k<BL->some k≠v.ownBlock:=fun k hk e=>by have:=(h.own.lt k e.symm).1;omega
 have ha:∀k,k<w.heap.size->(w.alloc ob).heap[k]?=w.heap[k]?:=fun k hk=>Below.heap_alloc _ _ _ hk
 have hb:w8.heap[bS]?=w.heap[bS]?:=(hg.block bS oM (hnv _ hlb)).trans (ha _ oM);have hgr:w8.heap[gS]?=w.heap[gS]?:=(hg.block gS oM (hnv _ hlg)).trans (ha _ oM);have ce:∀q,w8.cell? ⟨bS,q,none⟩=w.cell? ⟨bS,q,none⟩:=fun q=>World.cell?_of_block hb
 have fe:∀q,w8.frozen? ⟨bS,q,none⟩=false:=fun q=>(World.frozen?_of_block hb).trans (h.thaw q)
 refine⟨⟨(Va _ _ oM _).trans ((ce 0).trans h.c0),(Va _ _ oM _).trans ((ce 1).trans h.c1),World.cell?_setCell_same _ _ _ ((ce 2).trans h.c2),fun q=>by rw[World.frozen?_setCell];exact fe q,(h.row.of_block hgr).setOther (fun e=>h.ne e.symm) _,?_,hlb,hlg,h.ne,by rw[Xe];omega⟩,⟨?_,?_,?_,by rw[Xe];omega,fun k h1 h2 h3 h4=>?_,?_⟩,(ce 2).trans h.c2,fe 2⟩
 ·rw[Za6,List.length_append]
  exact ownsRow_setCell_below ho hlb _
 ·exact hg.os
 ·exact hg.tape
 ·exact hg.output
 ·rw[Below.heap_setCell _ _ _ _ h2]
  exact(hg.block k oM h4).trans (ha k h1)
 ·rcases hat with e | e
  ·exact Or.inl e
  ·exact Or.inr (fun k ek=>by rw[e]at ek;injection ek with ek;omega)
theorem Uw.blks{w w':World}{bS gS BL K:Nat}{ab:Option Addr}{nb cb:Nat}{W:Nat->Nat}{v v':Value}{L:List Nat}{xs:List Xh}{L0 B0:Nat}(f:Uw w w' bS gS v v')(h:YN w bS gS BL K ab nb cb W v L)(hb:Xk w L0 B0 ab xs)(h1:¬(L0<=bS/\bS<B0))(h2:¬(L0<=gS/\gS<B0))(h3:B0<=BL):Xk w' L0 B0 ab xs:=by
 have hz:=h.sz;exact hb.keepS (fun k k1 k2=>f.block k oM (fun e=>h1 oM) (fun e=>h2 oM) (fun e=>by have:=(h.own.lt k e.symm).1;omega))
theorem ZaH(bS gS BL K nb cb:Nat)(ab:Option Addr)(xs:List Xh)(L0 B0:Nat)(hxb:Hid (nb=xs.length))(hn:nb<=1000)(hK:nb<=64*K)(hK2:K<=100)(h1:¬(L0<=bS/\bS<B0))(h2:¬(L0<=gS/\gS<B0))(h3:B0<=BL)(hT:Hid (∀x∈xs,∀t∈x.term.targets,0<=t/\t<nb)) :
 ∀(m b:Nat)(W:Nat->Nat)(v:Value)(L:List Nat)(w:World),Hid (YN w bS gS BL K ab nb cb W v L)->Hid (Xk w L0 B0 ab xs)->b<nb->Hid (Xx W nb<=m)->Hid (XA W)->L.length+Xx W nb<=nb ->
 Calls Tryz.prog 69 #[.pointer (some ⟨bS,0,none⟩),.int .i64 b] w fun e w'=>e=.returned (.tuple #[])/\∃v',Uw w w' bS gS v v'/\YN w' bS gS BL K ab nb cb (dfsV (XV xs) m b (W,L)).1 v' (dfsV (XV xs) m b (W,L)).2:=by
 obtain⟨i0,hi0,hz0,hz1,hz2⟩:=YG Tryz.info2';intro m
 induction m with
 | zero =>
  intro b W v L w HS HB hb HU HW hL;have HH:Hid (Xg W b=true):=Xa (KU (by have:=HU.out;omega) hb);have HAS:=Xa (KJ gS K b W w HW (Xa HS.row) oM oM);rw[HH.out]at HAS;have c1:=HS.c1
  go_enter Tryz.func69,Tryz.ntmps69
  go_wp2_with fail
  refine HAS.mono ?_;rintro e w1 ⟨rfl,hb1⟩;have HS1:=Xa (HS.below hb1);have HF1:Hid (Uw w w1 bS gS v v):=Xa (Uw.of_below hb1);clear hb1 HAS c1
  go_wp2_with fail
  refine bodyPost_ret (v:=.tuple #[]) (by simp[results,Tryz.results69,go_sem]) rfl ?_;exact⟨rfl,v,HF1.out,HS1.out⟩
 | succ m ih =>
  intro b W v L w HS HB hb HU HW hL;have IH:=Xa ih;clear ih;cases hh:Xg W b with
  | true =>
   have HHT:=Xa hh;clear hh;have HAS:=Xa (KJ gS K b W w HW (Xa HS.row) oM oM);rw[HHT.out]at HAS;have c1:=HS.c1
   go_enter Tryz.func69,Tryz.ntmps69
   go_wp2_with fail
   refine HAS.mono ?_;rintro e w1 ⟨rfl,hb1⟩;have HS1:=Xa (HS.below hb1);have HF1:Hid (Uw w w1 bS gS v v):=Xa (Uw.of_below hb1);clear hb1 HAS c1
   go_wp2_with fail
   refine bodyPost_ret (v:=.tuple #[]) (by simp[results,Tryz.results69,go_sem]) rfl ?_;rw[UA (s:=(W,L)) HHT.out];exact⟨rfl,v,HF1.out,HS1.out⟩
  | false =>
   have HHF:=Xa hh;clear hh;have c0:=HS.c0;have c1:=HS.c1;have c2:=HS.c2;have HAS:=Xa (KJ gS K b W w HW (Xa HS.row) oM oM);rw[HHF.out]at HAS
   go_enter Tryz.func69,Tryz.ntmps69
   go_wp2_with fail
   refine HAS.mono ?_;rintro e w1 ⟨rfl,hb1⟩;have HS1:=Xa (HS.below hb1);have HF1:Hid (Uw w w1 bS gS v v):=Xa (Uw.of_below hb1);clear hb1 HAS c0 c1 c2;have c0:=HS1.c0;have c1:=HS1.c1
   go_wp2_with fail
   have HSA:=Xa (HS1.below (Xb (Below.refl _ _) (.cells #[.int .i64 (b:Int)] 186)));have HFA:Hid (Uw w1 (w1.alloc (.cells #[.int .i64 (b:Int)] 186)) bS gS v v):=Xa (Uw.of_below (Xb (Below.refl _ _) _));have HIA:Hid (Xf (w1.alloc (.cells #[.int .i64 (b:Int)] 186)) w1.heap.size (w1.heap.size+1) (some ⟨w1.heap.size,0,none⟩) ([b].map Int.ofNat)):=Xa (Zdj w1 b _);have hza:w1.heap.size+1<=(w1.alloc (.cells #[.int .i64 (b:Int)] 186)).heap.size:=sP;have hgz:gS<w1.heap.size:=by have:=HS1.lg;have:=HS1.sz;omega
   generalize w1.alloc (.cells #[.int .i64 (b:Int)] 186)=wa at *;have HRB:Hid (∀t∈[b],t<64*K):=Xa (fun t ht=>by
    have:t=b:=by simpa using ht
    omega)
   refine(ZcT gS K 1 1 W _ [b] w1.heap.size (w1.heap.size+1) wa HIA (Xa rfl) oM HRB oM HW (Xa HSA.row) hza oM).mono ?_;rintro e w2 ⟨rfl,hg2,hr2⟩;have HS2:Hid (YN w2 bS gS BL K ab nb cb (Y0 W b) v L):=Xa (HSA.seen hg2 hr2);have HF2:Hid (Uw w w2 bS gS v v):=Xa ((HF1.trans HFA.out).trans (Uw.of_grown hg2));have HB2:Hid (Xk w2 L0 B0 ab xs):=Xa (HF2.blks HS.out HB.out h1 h2 h3);have HU2:=Xa (Kl (W:=W) (n:=nb) hb HHF.out);have HD:Hid (dfsV (XV xs) (m+1) b (W,L)=_):=Xa (VT (tg:=XV xs) (m:=m) (s:=(W,L)) HHF.out);clear hg2 hr2 HSA HFA HIA HF1 HS1 hza hgz c0 c1;have hbx:b<xs.length:=by have:=hxb.out;omega
   obtain⟨bb,o,rfl,hbb,pa,pc,ia,ic,-,-,⟨t0,t1,t2,t3⟩,-,-⟩:=HB2.out b hbx;have c0:=HS2.c0;have HTT:Hid (∀t∈xs[b].term.targets,0<=t/\t<nb):=Xa (hT.out _ (List.getElem_mem hbx));rw[Kq hbx]at HD;dsimp only at HD;generalize xs[b].term=tm at *
   go_wp2_with fail
   refine(ZY tm w2).mono ?_;rintro e w3 ⟨at3,ct3,rfl,hb3,hi3⟩;have HS3:=Xa (HS2.below hb3);have HF3:Hid (Uw w w3 bS gS v v):=Xa (HF2.trans (Uw.of_below hb3));have HI3:=Xa hi3;have HB3:Hid (Xk w3 L0 B0 (some ⟨bb,o,none⟩) xs):=Xa (HF3.blks HS.out HB.out h1 h2 h3);have HZ3:=Xa hb3.size;have HOW:Hid (∀k,v.ownBlock=some k->k<w2.heap.size):=Xa (fun k e=>(HS2.own.lt k e).2);have HG2:Hid (gS<w2.heap.size/\bS<w2.heap.size):=Xa ⟨by have:=HS2.lg;have:=HS2.sz;omega,by have:=HS2.lb;have:=HS2.sz;omega⟩;clear hb3 hi3 t0 t1 t2 t3 c0 HB2 HS2 HF2;have hts2:tm.targets.length<=2:=Ke tm;generalize hts:tm.targets=ts at *;clear hts;have HTL:Hid (∀t∈ts.map Int.toNat,t<nb):=Xa (fun t ht=>by
    obtain⟨z,hz,rfl⟩:=List.mem_map.1 ht;have:=HTT.out z hz;omega)
   have HTG:Hid (∀b,b<nb->∀t∈XV xs b,t<nb):=Xa (fun b hb t ht=>by
    have hbx:b<xs.length:=by have:=hxb.out;omega
    rw[Kq hbx]at ht;obtain⟨z,hz,rfl⟩:=List.mem_map.1 ht;have:=hT.out _ (List.getElem_mem hbx) z hz;omega)
   have HWA:=Xa (Zey HW.out b);have hU3:Xx (Y0 W b) nb<=m:=by have:=HU.out;have:=HU2.out;omega
   have hL3:L.length+Xx (Y0 W b) nb+1<=nb:=by have:=HU2.out;omega
   go_wp2_with fail
   go_loopw [29] (fun u wr=>∃q:Nat,q<=ts.length/\u=.int .i64 q/\∃v',Hid (Uw w3 wr bS gS v v')/\Hid (YN wr bS gS BL K (some ⟨bb,o,none⟩) nb cb (((ts.map Int.toNat).take q).foldl (fun s t=>dfsV (XV xs) m t s) (Y0 W b,L)).1 v' (((ts.map Int.toNat).take q).foldl (fun s t=>dfsV (XV xs) m t s) (Y0 W b,L)).2)) (fun u _=>ts.length-(intOf u).toNat)
   case atStart=>exact⟨0,Nat.zero_le _,rfl,v,Xa (Uw.refl _ _ _ _),HS3⟩
   case round =>
    obtain⟨q,hq,rfl,v',HFq,HSq⟩:=hrel;have HFL:Hid ((((ts.map Int.toNat).take q).foldl (fun s t=>dfsV (XV xs) m t s) (Y0 W b,L)).2.length+Xx (((ts.map Int.toNat).take q).foldl (fun s t=>dfsV (XV xs) m t s) (Y0 W b,L)).1 nb<=L.length+Xx (Y0 W b) nb):=Xa (ZhS (XV xs) nb HTG.out m _ _ (fun t ht=>HTL.out t (List.mem_of_mem_take ht)));by_cases hlt:q<ts.length
    ·obtain⟨bt,ot,rfl,hbt,et3⟩:=HI3.out q hlt
     have et:=(Xc (HFq.block bt hbt.2 (by have:=HG2.out;omega) (by have:=HG2.out;omega) (fun e=>by have:=HOW.out bt e.symm;omega))).trans et3;have htr:=HTT.out ts[q] (List.getElem_mem hlt);have HTK:Hid ((ts.map Int.toNat).take (q+1)=(ts.map Int.toNat).take q++[ts[q].toNat]):=Xa (by rw[List.take_succ_eq_append_getElem (by simpa using hlt),List.getElem_map]);have HWQ:=Xa (Zi3 (XV xs) m ((ts.map Int.toNat).take q) (Y0 W b,L) HWA.out);have HBq:=Xa (HFq.blks HS3.out HB3.out h1 h2 h3);have HUQ:Hid (Xx (((ts.map Int.toNat).take q).foldl (fun s t=>dfsV (XV xs) m t s) (Y0 W b,L)).1 nb<=m):=Xa (Nat.le_trans (Jz nb (fun x hx=>Tp (XV xs) m _ (Y0 W b,L) x hx)) hU3);have HFO:Hid (((ts.map Int.toNat).take (q+1)).foldl (fun s t=>dfsV (XV xs) m t s) (Y0 W b,L)=dfsV (XV xs) m ts[q].toNat (((ts.map Int.toNat).take q).foldl (fun s t=>dfsV (XV xs) m t s) (Y0 W b,L))):=Xa (by rw[HTK.out,List.foldl_append];rfl);clear et3 HTK;generalize ts[q]=tq at *;obtain⟨tn,rfl⟩:=ZhV htr.1;rw[Int.toNat_natCast]at HFO;have HC:=Xa (IH.out tn _ v' _ wr HSq HBq oM HUQ HWQ (by have:=HFL.out;omega));generalize ((ts.map Int.toNat).take q).foldl (fun s t=>dfsV (XV xs) m t s) (Y0 W b,L)=sq at *;obtain⟨Wq,Lq⟩:=sq;dsimp only at *
     go_wp2_with fail
     refine HC.mono ?_;rintro e w5 ⟨rfl,v5,hf5,hs5⟩;have HF5:=Xa (HFq.trans hf5);have HS5:=Xa hs5;clear hf5 hs5 HC
     go_wp2_with fail
     exact⟨⟨q+1,oM,gM,v5,HF5,Xa (by rw[HFO.out];exact HS5.out)⟩,by simp[intOf];omega⟩
    ·have hqe:q=ts.length:=oM
     have HTE:Hid ((ts.map Int.toNat).take q=ts.map Int.toNat):=Xa (List.take_of_length_le (by simp;omega));rw[HTE.out]at HSq HFL;generalize (ts.map Int.toNat).foldl (fun s t=>dfsV (XV xs) m t s) (Y0 W b,L)=sq at *;obtain⟨Wq,Lq⟩:=sq;dsimp only at *;clear HTE;have c2:=HSq.c2;have zz:=HSq.thaw 2;have hlq:Lq.length<=1000:=by have:=HFL.out;omega
     have hwz:=HSq.sz
     go_wp2_with (at_builtin;refine wpList_append_own_at _ rfl _ _ 25 rfl BL 2 i0 (.int .i64 0) 1 8 Tryz.underlying25 hi0 hz0 hz1 hz2 rfl dC _ _ _ rfl (HSq.own.alloc _) ⟨wr.heap.size,0,none⟩ 1 1 [.int .i64 (b:Int)] rfl rfl ?c1 ?c2 ?c3 ?c4 ?c5 ?_)
     case c1=>exact KS _ _ _
     case c2=>intro u hu;simp at hu;subst hu;rfl
     case c3=>unfold maxLen;omega
     case c4=>omega
     case c5=>simp;omega
     intro v8 w8 hown8 hg8 hne8 hat8;obtain⟨hp1,hp2,hp3,hp4⟩:=HSq.push hg8 hown8 hat8;obtain⟨g8,k8,rfl,-,-⟩:=XC hown8 oM;have HP1:=Xa hp1;have HP2:=Xa hp2;clear hp1 hp2 hown8 hg8 hne8 hat8
     go_wp2_with fail
     go_end0
     exact⟨rfl,_,(HF3.trans HFq.out).trans HP2.out,by rw[HD.out];exact HP1.out⟩
end Go.Proofs.YtlmgmkmomaileaaGreatDoor
namespace Go.Proofs.YtlmgmkmomaileaaGreatDoor
open Go.RowKit
inductive AvZ (tg:Nat->List Nat) (z:Int):Nat->Prop
 | root:z≠0->AvZ tg z 0
 | step {b t:Nat}:AvZ tg z b->t∈tg b->(t:Int)≠z->AvZ tg z t
theorem Zjv{tg:Nat->List Nat}{z:Int}(hz:z<0){b:Nat}:AvZ tg z b↔Re tg b:=by
 constructor
 ·intro h
  induction h with
  | root _=>exact Re.root
  | step _ ht _ ih=>exact Re.step ih ht
 ·intro h
  induction h with
  | root=>exact AvZ.root oM
  | step _ ht ih=>exact AvZ.step ih ht oM
structure RcI(tg:Nat->List Nat)(n:Nat)(z:Int)(F:List Nat)(i:Nat):Prop where
 nd:F.Nodup
 av:∀x∈F,AvZ tg z x
 lt:∀x∈F,x<n
 root:z≠0->0∈F
 nil:z=0->F=[]
 cl:∀k (h:k<F.length),k<i->∀t∈tg F[k],(t:Int)≠z->t=0\/t∈F
theorem JM{F:List Nat}{n:Nat}(h:F.Nodup)(hl:∀x∈F,x<n):F.length<=n:=by
 have:=List.Nodup.length_le_of_subset h (l₂:=List.range n) (fun x hx=>List.mem_range.2 (hl x hx));simpa using this
theorem Zjl{tg:Nat->List Nat}{n:Nat}{z:Int}{F:List Nat}{i:Nat}(h:RcI tg n z F i)(hi:F.length<=i)(x:Nat):x∈F↔AvZ tg z x:=by
 refine⟨h.av x,fun hx=>?_⟩
 induction hx with
 | root hz=>exact h.root hz
 | @step b t hb ht hne ih =>
  obtain⟨k,hk,e⟩:=List.getElem_of_mem ih;rcases h.cl k hk oM t (by rw[e];exact ht) hne with h0 | h1
  ·rw[h0]
   refine h.root (fun hz=>?_);rw[h.nil hz]at hk;exact absurd hk sP
  ·exact h1
theorem VA{T:Type}{C:T->Value}{w:World}{g t n:Nat}{f:Nat->T}(h:w.rowIs g t n (fun z=>C (f z)))(r:Nat)(v:T):(w.setCell ⟨g,r,none⟩ (C v)).rowIs g t n (fun z=>C (if z=r then v else f z)) :=
 (h.set r (C v)).congr (fun z _=>by by_cases e:z=r<;>simp[e])
theorem TL{T:Type}{C:T->Value}{w:World}{g t n:Nat}{f f':Nat->T}(h:w.rowIs g t n (fun z=>C (f z)))(e:∀z,z<n->f z=f' z):w.rowIs g t n (fun z=>C (f' z)):=h.congr (fun z hz=>by rw[e z hz])
theorem Tryz.infoBo:(Tryz.prog.info? 4).map (fun i=>(i.zero,i.size,i.bytes))=some (some (.bool false),1,1):=vZ
end Go.Proofs.YtlmgmkmomaileaaGreatDoor
namespace Go.Proofs.YtlmgmkmomaileaaGreatDoor
set_option maxHeartbeats 2000000
set_option maxRecDepth 100000
open Go.RowKit
theorem ZkR(w:World)(o:Obj):((w.alloc o).alloc (.cells #[] 2)).ownsRow (w.heap.size+1) 2 1 (.slice (some ⟨w.heap.size+1,0,none⟩) 0 0) 0 []:=by
 have h:=World.ownsRow_lit (base:=w.heap.size+1) (e:=2) (size:=1) (w.alloc o) #[] 0 sP sP rfl;rw[World.size_alloc]at h;exact h
structure RcJ(tg:Nat->List Nat)(n:Nat)(z:Int)(F F':List Nat)(i q:Nat)(ts:List Int):Prop where
 pre:∃E,F'=F++E
 nd:F'.Nodup
 av:∀x∈F',AvZ tg z x
 lt:∀x∈F',x<n
 now:∀k (h:k<ts.length),k<q->ts[k]≠z->ts[k]=0\/ts[k].toNat∈F'
theorem ZfH{tg:Nat->List Nat}{n:Nat}{z:Int}{F:List Nat}{i:Nat}{ts:List Int}(h:RcI tg n z F i):RcJ tg n z F F i 0 ts:=⟨⟨[],sP⟩,h.nd,h.av,h.lt,fun k _ hk=>absurd hk oM⟩
theorem Zhm{tg:Nat->List Nat}{n:Nat}{z:Int}{F F':List Nat}{i q:Nat}{ts:List Int}(h:RcJ tg n z F F' i q ts)(hq:q<ts.length)(hs:ts[q]=z\/ts[q]=0\/ts[q].toNat∈F'):RcJ tg n z F F' i (q+1) ts:=⟨h.pre,h.nd,h.av,h.lt,fun k hk hkq hne=>by
 by_cases e:k=q
 ·subst e
  rcases hs with h1 | h1 | h1
  ·exact absurd h1 hne
  ·exact Or.inl h1
  ·exact Or.inr h1
 ·exact h.now k hk oM hne⟩
theorem ZgO{tg:Nat->List Nat}{n:Nat}{z:Int}{F F':List Nat}{i q t:Nat}{ts:List Int}(h:RcJ tg n z F F' i q ts)(hq:q<ts.length)(ht:ts[q]=t)(htn:t<n)(hz:(t:Int)≠z)(hn:t ∉ F')(hi:i<F.length)(htg:t∈tg F[i]):RcJ tg n z F (F'++[t]) i (q+1) ts:=by
 obtain⟨E,e⟩:=h.pre;refine⟨⟨E++[t],by rw[e,List.append_assoc]⟩,?_,fun x hx=>?_,fun x hx=>?_,fun k hk hkq hne=>?_⟩
 ·rw[List.nodup_append]
  exact⟨h.nd,sP,fun x hx y hy e2=>hn (by
   have:y=t:=by simpa using hy
   rw[<-this,<-e2];exact hx)⟩
 ·rcases List.mem_append.1 hx with h1 | h1
  ·exact h.av x h1
  ·have:x=t:=by simpa using h1
   rw[this];exact AvZ.step (h.av F[i] (by rw[e];exact List.mem_append_left _ (List.getElem_mem hi))) htg hz
 ·rcases List.mem_append.1 hx with h1 | h1
  ·exact h.lt x h1
  ·have:x=t:=by simpa using h1
   omega
 ·by_cases e2:k=q
  ·subst e2
   exact Or.inr (by rw[ht];simp)
  ·rcases h.now k hk oM hne with h1 | h1
   ·exact Or.inl h1
   ·exact Or.inr (List.mem_append_left _ h1)
theorem Zht{tg:Nat->List Nat}{n:Nat}{z:Int}{F F':List Nat}{i q:Nat}{ts:List Int}(h:RcJ tg n z F F' i q ts)(hI:RcI tg n z F i)(hz:z≠0)(hi:i<F.length)(hq:ts.length<=q)(htg:tg F[i]=ts.map Int.toNat)(h0:∀t∈ts,0<=t):RcI tg n z F' (i+1):=by
 obtain⟨E,e⟩:=h.pre;have hmem:∀x∈F,x∈F':=fun x hx=>by rw[e];exact List.mem_append_left _ hx
 refine⟨h.nd,h.av,h.lt,fun hz'=>hmem 0 (hI.root hz'),fun hz'=>absurd hz' hz,fun k hk hki t ht hne=>?_⟩;have hkF:k<F.length:=oM;have ek:F'[k]=F[k]:=by
  have h3:F'[k]?=(F++E)[k]?:=by rw[e]
  rw[List.getElem?_eq_getElem hk,List.getElem?_append_left hkF,List.getElem?_eq_getElem hkF]at h3;injection h3
 rw[ek]at ht;by_cases e2:k=i
 ·subst e2
  rw[htg]at ht;obtain⟨y,hy,rfl⟩:=List.mem_map.1 ht;obtain⟨j,hj,rfl⟩:=List.getElem_of_mem hy;have hy0:=h0 _ hy;rcases h.now j hj oM (fun e3=>hne oM)with h1 | h1
  ·exact Or.inl (by rw[h1];rfl)
  ·exact Or.inr h1
 ·rcases hI.cl k hkF oM t ht hne with h1 | h1
  ·exact Or.inl h1
  ·exact Or.inr (hmem t h1)
theorem Zft(w:World)(n:Nat)(hn:0<n):(w.alloc (.cells ((madeCells #[.bool false] n).setIfInBounds 0 (.bool true)) 4)).rowIs w.heap.size 4 n (fun x=>.bool (decide (x=0\/x∈[0]))):=by
 have h:=World.rowIs_alloc w ((madeCells #[.bool false] n).setIfInBounds 0 (.bool true)) 4 (fun x=>.bool (decide (x=0\/x∈[0]))) (fun i hi=>by
  rw[Array.size_setIfInBounds,size_madeCells]at hi;rw[Array.getElem?_setIfInBounds];by_cases e:0=i
  ·subst e;simp[hn,size_madeCells]
  ·have e':¬i=0:=fun h=>e h.symm
   have e1:i % 1=0:=Nat.mod_one i;simp[e,e',madeCells,hi,e1])
 rw[Array.size_setIfInBounds,size_madeCells]at h;exact h
theorem Zfo(vl:Int)(a:Option Addr)(n c:Nat)(z:Int)(xs:List Xh)(L B:Nat)(w:World)(ha:Hid (Xk w L B a xs))(hx:Hid (n=xs.length))(hn:n<=1000)(hn0:0<n)(hB:B<=w.heap.size)(hT:Hid (∀x∈xs,∀t∈x.term.targets,0<=t/\t<n)) :
 Calls Tryz.prog 57 #[.agg #[.int .i64 vl,.slice a n c],.int .i64 z] w fun e w'=>∃v F,e=.returned v/\Below w.heap.size w w'/\w'.ownsRow w.heap.size 2 1 v F.length (KN F)/\F.Nodup/\∀x,x∈F↔AvZ (XV xs) z x:=by
 obtain⟨i0,hi0,hz0,hz1,hz2⟩:=YG Tryz.info2';have hmb:=run_make_row' (P:=Tryz.prog) 153 4 (.bool false) 1 Tryz.underlying153 Tryz.infoBo rfl .i64 .i64 n oM oM;have hcm:∀W:World,(W.alloc (.cells (madeCells #[.bool false] n) 4)).cell? ⟨W.heap.size,0,none⟩=some (.bool false):=fun W=>(World.rowIs_made W (.bool false) n 4).cell hn0
 by_cases hz:z=0
 ·subst hz
  have hc3:=fun o1 o2=>hcm ((w.alloc o1).alloc o2)
  simp only[World.size_alloc]at hc3;clear hcm
  go_enter Tryz.func57,Tryz.ntmps57
  go_wp2_with fail
  go_loopw [5,7] (fun v u wr=>v=.slice (some ⟨w.heap.size+1,0,none⟩) 0 0/\u=.int .i64 0/\Hid (Below w.heap.size w wr)/\Hid (w.heap.size+1<wr.heap.size)/\Hid (wr.ownsRow w.heap.size 2 1 (.slice (some ⟨w.heap.size+1,0,none⟩) 0 0) 0 [])) (fun _ _ _=>0)
  case atStart=>exact⟨rfl,rfl,Xa (Xb (Xb (Xb (Below.refl _ _) _) _) _),Xa sP,Xa (World.ownsRow.alloc (by
   have h:=World.ownsRow_lit (base:=w.heap.size) (e:=2) (size:=1) (w.alloc (.cells #[.int .i64 vl,.slice a n c] 33)) #[] 0 sP sP rfl;rw[World.size_alloc]at h;exact h) _)⟩
  case round =>
   obtain⟨rfl,rfl,HB,HZ,HO⟩:=hrel
   go_wp2_with fail
   go_ret
   refine⟨_,[],rfl,HB.out,HO.out,List.nodup_nil,fun x=>⟨fun h=>(by cases h),fun h=>?_⟩⟩;exfalso;have:∀{c},AvZ (XV xs) 0 c->False:=fun hc=>by
    induction hc with
    | root h=>exact h rfl
    | step _ _ _ ih=>exact ih
   exact this h
 ·have hzb:(z==0)=false:=by simpa using hz
  go_enter Tryz.func57,Tryz.ntmps57
  go_wp2_with (at_builtin;refine wpList_append_own_at _ rfl _ _ 25 rfl (w.heap.size+1) 2 i0 (.int .i64 0) 1 8 Tryz.underlying25 hi0 hz0 hz1 hz2 rfl dC _ _ _ rfl (World.ownsRow.alloc (ZkR w _) _) ⟨w.heap.size+2,0,none⟩ 1 1 [.int .i64 0] rfl rfl ?c1 ?c2 ?c3 ?c4 ?c5 ?_)
  case c1 =>
   have h:=KS ((w.alloc (.cells #[.int .i64 vl,.slice a n c] 33)).alloc (.cells #[] 2)) (.int .i64 0) 2;simpa using h
  case c2=>intro u hu;simp at hu;subst hu;rfl
  case c3=>unfold maxLen;omega
  case c4=>omega
  case c5=>simp
  intro v1 w1 hown1 hg1 hne1 hat1;have hcf:w1.cell? ⟨w.heap.size,1,none⟩=some (.slice a n c):=(Xc (hg1.block w.heap.size (by simp;omega) (by simp[Value.ownBlock]))).trans (by simp[go_sem]);have HB1:Hid (Below w.heap.size w w1):=Xa ((Xb (Xb (Xb (Below.refl _ _) _) _) _).grown hg1 (by simp;omega) (fun k e=>by simp[Value.ownBlock]at e;omega));have HZ1:Hid (w.heap.size+2<w1.heap.size):=Xa (by have:=hg1.size;simp only[World.size_alloc]at this;omega);obtain⟨g1,k1,rfl,hgb,hk1⟩:=XC hown1 oM;have HO1:Hid (w1.ownsRow (w.heap.size+1) 2 1 (.slice (some ⟨g1,0,none⟩) (0+1) k1) [0].length (KN [0])):=Xa hown1;have hg1l:g1<w1.heap.size:=hgb.2;clear hown1 hg1 hne1 hat1 hgb;have hc3:=hcm w1;clear hcm
  go_wp2_with fail
  have HSE:=Xa (Zft w1 n hn0);have HO2:=Xa (HO1.alloc (.cells ((madeCells #[.bool false] n).setIfInBounds 0 (.bool true)) 4));have HB2:Hid (Below w.heap.size w (w1.alloc (.cells ((madeCells #[.bool false] n).setIfInBounds 0 (.bool true)) 4))):=Xa (Xb HB1.out _);have HCF:Hid ((w1.alloc (.cells ((madeCells #[.bool false] n).setIfInBounds 0 (.bool true)) 4)).cell? ⟨w.heap.size,1,none⟩=some (.slice a n c)):=Xa ((World.cell?_alloc_lt _ _ _ (by have:=HZ1.out;show w.heap.size<_;omega)).trans hcf);have HG12:Hid (g1≠w1.heap.size):=Xa oM;have HGZ:Hid (w.heap.size+1<w1.heap.size):=Xa (by have:=HZ1.out;omega);clear hc3 hcf hg1l HO1 HB1 HZ1;generalize w1.alloc (.cells ((madeCells #[.bool false] n).setIfInBounds 0 (.bool true)) 4)=w2 at *;generalize w1.heap.size=g2 at *
  go_loopw [5,7] (fun v u wr=>∃(F:List Nat)(i:Nat),u=.int .i64 i/\i<=F.length/\Hid (RcI (XV xs) n z F i)/\Hid (Below w.heap.size w wr)/\Hid (wr.cell? ⟨w.heap.size,1,none⟩=some (.slice a n c))/\Hid (wr.rowIs g2 4 n (fun x=>.bool (decide (x=0\/x∈F))))/\Hid (v.ownBlock≠some g2)/\Hid (wr.ownsRow (w.heap.size+1) 2 1 v F.length (KN F))) (fun _ u _=>n+1-(intOf u).toNat)
  case atStart=>exact⟨[0],0,rfl,Nat.zero_le _,Xa ⟨sP,fun x hx=>by
   have:x=0:=by simpa using hx
   subst this;exact AvZ.root hz,fun x hx=>by
   have:x=0:=by simpa using hx
   omega,fun _=>sP,fun h=>absurd h hz,fun k _ hk=>absurd hk oM⟩,HB2,HCF,HSE,Xa (by simp[Value.ownBlock];exact HG12.out),HO2⟩
  case round =>
   obtain⟨F,i,rfl,hi,HR,HB,HC,HS,HN,HO⟩:=hrel;have hFn:=JM HR.nd HR.lt;by_cases hlt:i<F.length
   ·obtain⟨gv,kv,rfl,hgv,hkv⟩:=XC HO.out oM
    have hFi:=HR.lt F[i] (List.getElem_mem hlt);have hFx:F[i]<xs.length:=by have:=hx.out;omega
    have ef:=XZ HO.out (j:=i) (u:=.int .i64 (F[i]:Int)) (by simp[KN,hlt]);have hBw:B<=w.heap.size:=hB;obtain⟨bb,ob,rfl,hbb,pa,pc,ia,ic,-,-,⟨t0,t1,t2,t3⟩,-,-⟩:=(ha.keep (HB.mono hB)) F[i] hFx;have ecf:=HC.out;have HTT:Hid (∀t∈xs[F[i]].term.targets,0<=t/\t<n):=Xa (hT.out _ (List.getElem_mem hFx));have HTG:Hid (XV xs F[i]=xs[F[i]].term.targets.map Int.toNat):=Xa (Kq hFx);have hvz:=HO.lt gv rfl;generalize hFF:F[i]=fi at *;have HFF:=Xa hFF;clear hFF;generalize xs[fi].term=tm at *;have HWZ:Hid (w.heap.size+1<=wr.heap.size/\g2<wr.heap.size):=Xa ⟨oM,HS.lt⟩
    go_wp2_with fail
    refine Z1 (fun w'=>w'.cell? ⟨w.heap.size,1,none⟩=some (.slice (some ⟨bb,ob,none⟩) n c)/\w'.cell? ⟨gv,i,none⟩=some (.int .i64 (fi:Int))/\w'.cell? ⟨bb,ob+fi*6+2,none⟩=some (.int .i64 tm.kind)/\w'.cell? ⟨bb,ob+fi*6+2+1,none⟩=some (.int .i64 tm.a)/\w'.cell? ⟨bb,ob+fi*6+2+2,none⟩=some (.int .i64 tm.to)/\w'.cell? ⟨bb,ob+fi*6+2+3,none⟩=some (.int .i64 tm.els)) (fun hHeld=>?_);refine Xi 0 ?_;refine Xi 1 ?_;refine Xi 2 ?_;refine Xi 3 ?_;refine Xi 4 ?_;refine Xi 5 ?_;refine Xi 6 ?_;refine Xi 7 ?_;refine Xi 8 ?_;refine Xt 9 (fun K hK=>?_);go_simp
    go_at_call 89
    refine(Z8 tm _).mono ?_;rintro e w3 ⟨at3,ct3,rfl,hb3,hi3⟩;have hb3':Below wr.heap.size wr w3:=⟨hb3.os,hb3.tape,hb3.output,hb3.size,hb3.block⟩;have hbz:bb<wr.heap.size:=by have:=HWZ.out;omega
    have kc:∀q,w3.cell? ⟨bb,q,none⟩=wr.cell? ⟨bb,q,none⟩:=fun q=>hb3'.cell (p:=⟨bb,q,none⟩) hbz
    refine hK _ _ ⟨(hb3'.cell (p:=⟨w.heap.size,1,none⟩) (by have:=HWZ.out;show w.heap.size<_;omega)).trans ecf,(hb3'.cell (p:=⟨gv,i,none⟩) hvz.2).trans ef,(kc _).trans t0,(kc _).trans t1,(kc _).trans t2,(kc _).trans t3⟩ (fun hHeld=>?_);clear hK kc hbz
    try simp only[Act.put,xA,xB,xC,xD,xE,xF]
    refine Xi 10 ?_;refine YA ?_;have hi3':Xf w3 wr.heap.size w3.heap.size at3 tm.targets:=hi3;have HB3:Hid (Below w.heap.size w w3):=Xa (Xd HB.out hb3');have HC3:Hid (w3.cell? ⟨w.heap.size,1,none⟩=some (.slice (some ⟨bb,ob,none⟩) n c)):=Xa ((hb3'.cell (p:=⟨w.heap.size,1,none⟩) (by have:=HWZ.out;show w.heap.size<_;omega)).trans HC.out);have HS3:=Xa (HS.of_block (hb3'.block g2 HWZ.2));have HO3:=Xa (Zjw HO.out (hb3'.block gv hvz.2));have HI3:=Xa hi3';have HZ3:=Xa hb3'.size;clear hb3 hi3 hb3' hi3' t0 t1 t2 t3 ef ecf hHeld;generalize hts:tm.targets=ts at *;have hts2:ts.length<=2:=by rw[<-hts];exact Ke tm
    clear hts
    go_wp2_with fail
    generalize wr=wo at *
    go_loopw [5,9] (fun v u wq=>∃(F':List Nat)(q:Nat),u=.int .i64 q/\q<=ts.length/\Hid (RcJ (XV xs) n z F F' i q ts)/\Hid (Below w.heap.size w wq)/\Hid (wq.cell? ⟨w.heap.size,1,none⟩=some (.slice (some ⟨bb,ob,none⟩) n c))/\Hid (wq.rowIs g2 4 n (fun x=>.bool (decide (x=0\/x∈F'))))/\Hid (v.ownBlock≠some g2)/\Hid (Xf wq wo.heap.size w3.heap.size at3 ts)/\Hid (∀k,v.ownBlock=some k->k<wo.heap.size\/w3.heap.size<=k)/\Hid (w3.heap.size<=wq.heap.size)/\Hid (wq.ownsRow (w.heap.size+1) 2 1 v F'.length (KN F'))) (fun _ u _=>ts.length-(intOf u).toNat)
    case atStart=>exact⟨F,0,rfl,Nat.zero_le _,Xa (ZfH HR.out),HB3,HC3,HS3,HN,HI3,Xa (fun k e=>by
     simp only[Value.ownBlock,Option.some.injEq]at e;exact Or.inl oM),Xa (Nat.le_refl _),HO3⟩
    case round =>
     obtain⟨F',q,rfl,hq,HJ,HBq,HCq,HSq,HNq,HIq,HKq,HZq,HOq⟩:=hrel;have hFn':=JM HJ.nd HJ.lt;clear HB3 HC3 HS3 HO3 HI3;by_cases hlq:q<ts.length
     ·obtain⟨bt,ot,rfl,hbt,et⟩:=HIq.out q hlq
      have htr:=HTT.out ts[q] (List.getElem_mem hlq);have HSK:=Xa (Zhm HJ.out hlq);have HTM:Hid (∀t:Nat,ts[q]=(t:Int)->t∈XV xs fi):=Xa (fun t e=>by rw[HTG.out];exact List.mem_map.2 ⟨ts[q],List.getElem_mem hlq,by rw[e];rfl⟩);have HTAK:Hid (∀t:Nat,ts[q]=(t:Int)->t<n->(t:Int)≠z->t ∉ F'->t∈XV xs F[i]->RcJ (XV xs) n z F (F'++[t]) i (q+1) ts):=Xa (fun t e1 e2 e3 e4 e5=>ZgO HJ.out hlq e1 e2 e3 e4 hlt e5);generalize ts[q]=tq at *;obtain⟨tn,rfl⟩:=ZhV htr.1;have htn:tn<n:=oM;have esn:=HSq.cell htn;have ezn:=HSq.frozen;by_cases hez:(tn:Int)=z
      ·have hb:((tn:Int)==z)=true:=by simpa using hez
       have hb':((tn:Int) != z)=false:=by simp[hez]
       have HJ2:=Xa (HSK.out (Or.inl hez));clear hez esn
       go_wp2_with fail
       exact⟨⟨F',q+1,gM,oM,HJ2,HBq,HCq,HSq,HNq,HIq,HKq,HZq,HOq⟩,by simp[intOf];omega⟩
      ·have hb:((tn:Int)==z)=false:=by simpa using hez
       have hb':((tn:Int) != z)=true:=by simp[hez]
       by_cases hin:tn=0\/tn∈F'
       ·rw[decide_eq_true hin]at esn
        have HJ2:=Xa (HSK.out (Or.inr (by rcases hin with h | h;exact Or.inl oM;exact Or.inr (by simpa using h))));clear hin hez
        go_wp2_with fail
        exact⟨⟨F',q+1,gM,oM,HJ2,HBq,HCq,HSq,HNq,HIq,HKq,HZq,HOq⟩,by simp[intOf];omega⟩
       ·rw[decide_eq_false hin]at esn
        have HJ2:=Xa (HTAK.out tn rfl htn hez (fun h=>hin (Or.inr h)) (by rw[HFF.out];exact HTM.out tn rfl));have HSN:Hid (∀x,x<n->(if x=tn then true else decide (x=0\/x∈F'))=decide (x=0\/x∈F'++[tn])):=Xa (fun x _=>by
         by_cases e:x=tn
         ·subst e;simp
         ·simp[e])
        clear hin hez;have hwz:=HZq.out;have nbg:bt≠g2:=by have:=HWZ.2;omega
        have nbg':g2≠bt:=fun e=>nbg e.symm
        have hbz:bt<wr.heap.size:=oM;have HGz:Hid (g2<wr.heap.size):=Xa HSq.lt;have hww:w.heap.size+1<=wr.heap.size:=by have:=HWZ.out;have:=HZ3.out;omega
        go_wp2_with (at_builtin;refine wpList_append_own_at _ rfl _ _ 25 rfl (w.heap.size+1) 2 i0 (.int .i64 0) 1 8 Tryz.underlying25 hi0 hz0 hz1 hz2 rfl dC _ _ _ rfl ((ownsRow_setCell_other HOq.out (a:=⟨g2,tn,none⟩) HNq.out (.bool true)).alloc _) ⟨wr.heap.size,0,none⟩ 1 1 [.int .i64 (tn:Int)] rfl rfl ?c1 ?c2 ?c3 ?c4 ?c5 ?_)
        case c1 =>
         have h:=KS (wr.setCell ⟨g2,tn,none⟩ (.bool true)) (.int .i64 (tn:Int)) 2;rw[Xe]at h;exact h
        case c2=>intro u hu;simp at hu;subst hu;rfl
        case c3=>unfold maxLen;omega
        case c4=>omega
        case c5=>rw[World.size_alloc,Xe];omega
        intro v8 w8 hown8 hg8 hne8 hat8;have hs8:=hg8.size;rw[World.size_alloc,Xe]at hs8;have blk:∀k,k<wr.heap.size->k≠g2->(∀j,u5.ownBlock=some j->k≠j)->w8.heap[k]?=wr.heap[k]?:=fun k h1 h2 h3=>by
         refine(hg8.block k (by rw[World.size_alloc,Xe];omega) (fun e=>h3 k e.symm rfl)).trans ?_;rw[Below.heap_alloc _ _ _ (by rw[Xe];exact h1)];exact Below.heap_setCell _ _ _ _ h2
        have hown':∀j,u5.ownBlock=some j->w.heap.size+1<=j:=fun j e=>(HOq.lt j e).1
        have hg2w:=HGZ.out;have HB8:Hid (Below w.heap.size w w8):=Xa (((Below.alloc (HBq.setCell (by show w.heap.size<=g2;omega) _) (by rw[Xe];omega) _).grown hg8 (by rw[World.size_alloc,Xe];omega) (fun k e=>by have:=hown' k e;omega)));have HC8:Hid (w8.cell? ⟨w.heap.size,1,none⟩=some (.slice (some ⟨bb,ob,none⟩) n c)):=Xa ((Xc (blk w.heap.size oM oM (fun j e=>by have:=hown' j e;omega))).trans HCq.out);have HS8:Hid (w8.rowIs g2 4 n (fun x=>.bool (decide (x=0\/x∈F'++[tn])))):=Xa (TL (C:=Value.bool) (((VA (C:=Value.bool) HSq.out tn true).alloc _).of_block (hg8.block g2 (by rw[World.size_alloc,Xe];have:=HGz.out;omega) (fun e=>HNq.out e.symm))) HSN.out);have HN8:Hid (v8.ownBlock≠some g2):=Xa (fun e=>by
         rcases hat8 with h | h
         ·exact HNq.out (h.symm.trans e)
         ·rw[e]at h;injection h with h;have:=HGz.out;omega)
        have HI8:Hid (Xf w8 wo.heap.size w3.heap.size (some ⟨bt,ot,none⟩) ts):=Xa (HIq.keepS (fun k h1 h2=>blk k oM (by have:=HWZ.2;omega) (fun j e=>by rcases HKq.out j e with h | h<;>omega)));have HK8:Hid (∀k,v8.ownBlock=some k->k<wo.heap.size\/w3.heap.size<=k):=Xa (fun k e=>by
         rcases hat8 with h | h
         ·exact HKq.out k (h.symm.trans e)
         ·rw[e]at h;injection h with h;exact Or.inr oM)
        have HZ8:Hid (w3.heap.size<=w8.heap.size):=Xa oM;have HO8:Hid (w8.ownsRow (w.heap.size+1) 2 1 v8 (F'++[tn]).length (KN (F'++[tn]))):=Xa (by rw[Za6,List.length_append];exact hown8);clear hown8 hg8 hne8 hat8 blk hown' HOq HSq HCq HBq HIq
        go_wp2_with fail
        exact⟨⟨F'++[tn],q+1,gM,oM,HJ2,HB8,HC8,HS8,HN8,HI8,HK8,HZ8,HO8⟩,by simp[intOf];omega⟩
     ·have HRD:Hid (RcI (XV xs) n z F' (i+1)):=Xa (Zht HJ.out HR.out hz hlt oM (by rw[HFF.out];exact HTG.out) (fun t ht=>(HTT.out t ht).1))
      have hil:i+1<=F'.length:=by obtain⟨E,e⟩:=HJ.pre;rw[e,List.length_append];omega
      go_wp2_with fail
      exact⟨⟨F',i+1,gM,hil,HRD,HBq,HCq,HSq,HNq,HOq⟩,by simp[intOf];omega⟩
   ·have hie:i=F.length:=oM
    subst hie;have hF0:0<F.length:=List.length_pos_of_mem (HR.root hz);obtain⟨gv,kv,rfl,hgv,hkv⟩:=XC HO.out hF0
    go_wp2_with fail
    go_ret
    exact⟨_,F,rfl,HB.out,X9 HO.out oM,HR.nd,Zjl HR.out (Nat.le_refl _)⟩
end Go.Proofs.YtlmgmkmomaileaaGreatDoor
