import Derived.Test.YtkehcdfalcakmaaGreatDoorMem
import Derived.Deep.DrawnRows
import Derived.Maps.AppendAt
namespace Go.Proofs.YtkehcdfalcakmaaGreatDoor
set_option maxHeartbeats 2000000
set_option maxRecDepth 100000
open Go.RowKit
theorem Tryz.infoBy:(Tryz.prog.info? 5).map (fun i=>(i.zero,i.size,i.bytes))=some (some (.int .u8 0),1,1):=by kernel_rfl
theorem X0{P:Program}{t:Nat}{z:Value}{s b:Nat}(h:(P.info? t).map (fun i=>(i.zero,i.size,i.bytes))=some (some z,s,b)):∃i,P.info? t=some i/\i.zero=some z/\i.size=s/\i.bytes=b:=by
 cases hi:P.info? t with
 | none=>rw[hi]at h;cases h
 | some i =>
  rw[hi]at h;simp only[Option.map_some,Option.some.injEq,Prod.mk.injEq]at h;exact⟨i,rfl,h.1,h.2.1,h.2.2⟩
theorem K3{P:Program}{ops:Array Oper}{w:World}{o:Oper}{a:Act}{K:Act->World->Prop}{Q:Exit->Act->World->Prop}{E:Prop}(hgd:o.guard=none)(s x:Operand)(t:TypeId)
 (ho:o.op=.call { callee:=.builtin .append,args:=#[s,x],argTypes:=#[t,t] })
 (base:Nat) (e:TypeId) (i:TypeInfo) (z:Value) (size bytes:Nat) (ht:P.underlying t=some (.slice e)) (hi:P.info? e=some i) (hz:i.zero=some z)
 (hsize:i.size=size) (hby:i.bytes=bytes) (hzs:z.cells.size=size) (hsz:0<size)
 (v:Value) (n:Nat) (xs:List Value) (hs:a.eval s=v) (hown:w.ownsRow base e size v n xs)
 (ad:Addr) (m c:Nat) (news:List Value) (hx:a.eval x=.slice (some ad) m c) (hl:news.length=m*size) (hnews:∀j u,news[j]?=some u->w.cell? (ad.add j)=some u) (h1:∀u∈news,u.oneCell'=true)
 (h63:n+m<=maxLen) (hbytes:(n+m)*bytes<=140737488355328) (hbase:base<=w.heap.size)
 (h:∀v' w',w'.ownsRow base e size v' (n+m) (xs++news)->w.grownBy w' v.ownBlock->(v'=.slice none 0 0↔v=.slice none 0 0/\m=0)->(v'.ownBlock=v.ownBlock\/v'.ownBlock=some w.heap.size)->K (a.put o.dst v') w') :
 if Region.wanted o (yielded ops a.tmps)=true then Oper.wp P o a w K Q else E:=by
 have hw:Region.wanted o (yielded ops a.tmps)=true:=by simp[Region.wanted,hgd]
 rw[if_pos hw];obtain⟨v',w',hr,h2,h3,h4,h5⟩:=run_append_own_at (P:=P) w base t o.type e i z size bytes ht hi hz hsize hby hzs hsz v n xs hown ad m c news hl hnews h1 h63 hbytes hbase;unfold Oper.wp execOp;simp only[ho,resolve,invoke,builtin,Sem.run_bind,Sem.run_pure,Result.andThen_ok,List.map_toArray,List.map_cons,List.map_nil,hs,hx,hr];exact h v' w' h2 h3 h4 h5
structure ZaA(w wr:World)(bs:List UInt8)(j:Nat)(v:Value):Prop where
 low:Below w.heap.size w wr
 size:w.heap.size+1<=wr.heap.size
 c0:wr.cell? ⟨w.heap.size,0,none⟩=some v
 c1:wr.cell? ⟨w.heap.size,1,none⟩=some (.int .i64 0)
 c2:wr.cell? ⟨w.heap.size,2,none⟩=some (.int .i64 0)
 c3:wr.cell? ⟨w.heap.size,3,none⟩=some (.int .i64 0)
 thaw:∀q,wr.frozen? ⟨w.heap.size,q,none⟩=false
 own:wr.ownsRow (w.heap.size+1) 5 1 v j (Xp (bs.take j))
theorem ZaA.drew{w wr:World}{bs:List UInt8}{j:Nat}{v:Value}(h:ZaA w wr bs j v):ZaA w wr.drew bs j v:=⟨h.low.drew,h.size,h.c0,h.c1,h.c2,h.c3,h.thaw,h.own⟩
theorem ZaA.step{w wr W w8:World}{bs:List UInt8}{j:Nat}{v v8:Value}(h:ZaA w wr bs j v)(hj:j<bs.length)(hg:wr.grownBy W none)(hg8:W.grownBy w8 v.ownBlock)
 (ho:w8.ownsRow (w.heap.size+1) 5 1 v8 (j+1) (Xp (bs.take j)++[.int .u8 (bs[j].toNat:Int)])):ZaA w (w8.setCell ⟨w.heap.size,0,none⟩ v8) bs (j+1) v8/\Below w.heap.size w w8/\(∀q,w8.frozen? ⟨w.heap.size,q,none⟩=false)/\w8.cell? ⟨w.heap.size,0,none⟩=some v/\∃g c,v8=.slice (some ⟨g,0,none⟩) (j+1) c:=by
 have hn:some w.heap.size≠v.ownBlock:=fun e=>by have:=(h.own.lt _ e.symm).1;omega
 have hs:=h.size;have hb:w8.heap[w.heap.size]?=wr.heap[w.heap.size]?:=(hg8.block _ (by have:=hg.size;omega) hn).trans (hg.block _ (by omega) (by simp));have l8:Below w.heap.size w w8:=((h.low.grown hg (by omega) (fun k e=>by cases e)).grown hg8 (by have:=hg.size;omega) (fun k e=>by have:=(h.own.lt _ e).1;omega));have ce:∀q,w8.cell? ⟨w.heap.size,q,none⟩=wr.cell? ⟨w.heap.size,q,none⟩:=fun q=>World.cell?_of_block hb
 have fe:∀q,w8.frozen? ⟨w.heap.size,q,none⟩=false:=fun q=>(World.frozen?_of_block hb).trans (h.thaw q)
 refine⟨⟨l8.setCell (Nat.le_refl _) _,?_,World.cell?_setCell_same _ _ _ ((ce 0).trans h.c0),(Yd _ _ (by omega) _).trans ((ce 1).trans h.c1),(Yd _ _ (by omega) _).trans ((ce 2).trans h.c2),(Yd _ _ (by omega) _).trans ((ce 3).trans h.c3),fun q=>by rw[World.frozen?_setCell];exact fe q,?_⟩,l8,fe,(ce 0).trans h.c0,?_⟩
 ·rw[Xd];have:=hg.size;have:=hg8.size;omega
 ·refine ownsRow_setCell_below ?_ (by show w.heap.size<_;omega) _
  rw[List.take_succ_eq_append_getElem hj,KH];exact ho
 ·rcases ho.2 with⟨_,h0⟩ | ⟨g,cap,_,e,_⟩
  ·omega
  ·exact⟨g,cap,e⟩
theorem XE.wide{w:World}{L B L' B':Nat}{a:Option Addr}{bs:List UInt8}(h:XE w L B a bs)(h1:L'<=L)(h2:B<=B'):XE w L' B' a bs:=fun i hi=>by
 obtain⟨b,o,e,hb,hc⟩:=h i hi;exact⟨b,o,e,by omega,hc⟩
theorem ZaA.done{w wr:World}{bs:List UInt8}{j:Nat}{v:Value}(h:ZaA w wr bs j v)(hj:bs.take j=bs.take 4000):∃a c,v=.slice a (bs.take 4000).length c/\ZL wr w.heap.size (w.heap.size+1) wr.heap.size ⟨bs.take 4000,0,0,0⟩:=by
 have ho:=h.own;rw[hj]at ho;obtain⟨a,c,L,B,e,hb,-,hL⟩:=ZbK ho;subst e;refine⟨a,c,rfl,⟨⟨a,c,h.c0,?_⟩,h.c1,h.c2,h.c3,h.thaw,by omega⟩⟩;rcases hL with⟨rfl,rfl⟩ | ⟨rfl,h1,h2⟩
 ·exact fun i hi=>by obtain⟨b,o,_,h2,_⟩:=hb i hi;omega
 ·exact hb.wide h1 h2
theorem ZL.undrew{w:World}{b L B:Nat}{s:Sr}(h:ZL w.drew b L B s):ZL w b L B s:=⟨h.c0,h.c1,h.c2,h.c3,h.thaw,h.out⟩
theorem ZL.siz{w:World}{b L B:Nat}{s:Sr}(h:ZL w b L B s)(m:Int):ZL (w.setCell ⟨b,3,none⟩ (.int .i64 m)) b L B { s with size:=m }:=by
 obtain⟨a,c,e0,hb⟩:=h.c0;exact⟨⟨a,c,(Yd w b (by omega) _).trans e0,UB _ hb h.out⟩,(Yd w b (by omega) _).trans h.c1,(Yd w b (by omega) _).trans h.c2,World.cell?_setCell_same w _ _ h.c3,fun q=>by show(w.setCell _ _).frozen? _=false;rw[World.frozen?_setCell];exact h.thaw q,h.out⟩
theorem Zbi(w:World)(o:Obj):w.grownBy (w.alloc o).drew none:=⟨rfl,rfl,rfl,(World.grownBy_alloc w o none).size,fun k h1 h2=>(World.grownBy_alloc w o none).block k h1 h2⟩
theorem YB(w:World)(u:Value)(ty:Nat):∀j x,([u]:List Value)[j]?=some x->(w.alloc (.cells #[u] ty)).cell? ((⟨w.heap.size,0,none⟩:Addr).add j)=some x:=fun j x hj=>by
 have ha:(⟨w.heap.size,0,none⟩:Addr).add j=⟨w.heap.size,j,none⟩:=by unfold Addr.add;split<;>simp_all
 rw[ha]
 match j,hj with
 | 0,hj=>simpa using hj
 | j+1,hj=>cases hj
theorem Zc0(a:Option Addr)(n c:Nat)(bs:List UInt8)(L B:Nat)(w:World)(ha:Hid (XE w L B a bs))(hx:Hid (n=bs.length))(hn:n<=1048576)(hB:B<=w.heap.size) :
 Calls Tryz.prog 11 #[.slice a n c] w fun e w'=>e=.returned (.pointer (some ⟨w.heap.size,0,none⟩))/\Below w.heap.size w w'/\w.heap.size+1<=w'.heap.size/\ZL w' w.heap.size (w.heap.size+1) w'.heap.size (Vf bs):=by
 obtain⟨i0,hi0,hz0,hz1,hz2⟩:=X0 Tryz.infoBy
 go_enter Tryz.func11,Tryz.ntmps11
 go_wp2
 go_loopw [4] (fun u wr=>∃j:Nat,j<=n/\j<=4000/\u=.int .i64 j/\∃v,Hid (ZaA w wr bs j v)) (fun u _=>n-(intOf u).toNat)
 case atStart=>exact⟨0,Nat.zero_le _,Nat.zero_le _,rfl,.slice none 0 0,Xa (by
  refine⟨Xb (Below.refl _ _) _,by simp,by simp[go_sem],by simp[go_sem],by simp[go_sem],by simp[go_sem],fun q=>by simp[go_sem],?_⟩;rw[List.take_zero];exact World.ownsRow_nil _ _ _ _)⟩
 case round =>
  obtain⟨j,hj,hj4,rfl,v,HS⟩:=hrel;by_cases hlt:j<n/\j<4000
  ·obtain⟨hlt,hlt4⟩:=hlt
   have hjx:j<bs.length:=by have:=hx.out;omega
   obtain⟨b,o,rfl,hbB,ejw⟩:=ha.out j hjx;have ej:=(Zg HS.low (by omega)).trans ejw;have hsz:=HS.size;have e0:=HS.c0;have e0a:∀ob,(wr.alloc ob).cell? ⟨w.heap.size,0,none⟩=some v:=fun ob=>(World.cell?_alloc_lt _ _ _ (by show w.heap.size<_;omega)).trans e0
   have hbn:b≠w.heap.size:=by omega
   have HGr:Hid (∀w8,Below w.heap.size w w8->w8.cell? ⟨b,o+j,none⟩=some (.int .u8 (bs[j].toNat:Int))):=Xa (fun w8 h8=>(Zg h8 (by omega)).trans ejw);clear ejw;go_wp2;refine YZ (fun w'=>w'.cell? ⟨b,o+j,none⟩=some (.int .u8 (bs[j].toNat:Int))) (fun hHeld=>?_);refine Xl 0 ?_;refine Xl 2 ?_;refine Xl 3 ?_;refine Xl 4 ?_;refine Xl 5 ?_;refine wpAnyH_ready (rs:=[1,6]) (by kernel_rfl) (by simp) ?_;refine(AllReadyH.cons rfl (fun K hK=>?_) (AllReadyH.cons rfl (fun K hK=>?_) AllReadyH.nil))
   ·skip
    go_simp;refine hK _ _ (by first | with_reducible exact hHeld | ((try dsimp only);go_keep)) (fun hHeld=>?_);clear hK
    try simp only[Act.put,xA,xB,xC,xD,xE,xF]
    refine Xw 6 (fun K hK=>?_);go_simp;refine hK _ _ (by first | with_reducible exact hHeld | ((try dsimp only);go_keep)) (fun hHeld=>?_);clear hK;refine Xw 7 (fun K hK=>?_);refine K3 rfl (.tmp 18) (.tmp 23) 22 rfl (w.heap.size+1) 5 i0 (.int .u8 0) 1 1 Tryz.underlying22 hi0 hz0 hz1 hz2 rfl (by decide) v j (Xp (bs.take j)) (by simp[Act.eval]) (HS.drew.own.alloc _) ⟨wr.heap.size,0,none⟩ 1 1 [.int .u8 (bs[j].toNat:Int)] (by simp[Act.eval]) rfl (YB _ _ _) (by intro u hu;simp at hu;subst hu;rfl) (by unfold maxLen;omega) (by omega) (by(try simp);omega) ?_;rintro v8 w8 hown8 hg8 - -;have HS8:=HS.step hjx (Zbi wr _) hg8 hown8;obtain⟨hs8,hl8,hf8,hc8,g8,c8,rfl⟩:=HS8;have HS9:=Xa hs8;have ej8:=HGr.out _ hl8;have hf80:=hf8 0;clear hown8 hg8 hs8 hl8 hf8;refine hK _ _ (by first | with_reducible exact hHeld | ((try dsimp only);go_keep)) (fun hHeld=>?_);clear hK;refine Xl 8 ?_;refine Xw 9 (fun K hK=>?_);go_simp;refine hK _ _ ((World.cell?_setCell_far _ _ _ _ (Ne.symm hbn)).trans ej8) (fun hHeld=>?_);clear hK;refine Y7 ?_;go_wp2;exact⟨⟨j+1,by omega,by omega,by go_num,_,Xa HS9.out⟩,by simp[intOf];omega⟩
   ·skip
    go_simp;refine hK _ _ (by first | with_reducible exact hHeld | ((try dsimp only);go_keep)) (fun hHeld=>?_);clear hK
    try simp only[Act.put,xA,xB,xC,xD,xE,xF]
    refine Xw 1 (fun K hK=>?_);go_simp;refine hK _ _ (by first | with_reducible exact hHeld | ((try dsimp only);go_keep)) (fun hHeld=>?_);clear hK;refine Xw 7 (fun K hK=>?_);refine K3 rfl (.tmp 18) (.tmp 23) 22 rfl (w.heap.size+1) 5 i0 (.int .u8 0) 1 1 Tryz.underlying22 hi0 hz0 hz1 hz2 rfl (by decide) v j (Xp (bs.take j)) (by simp[Act.eval]) (HS.drew.own.alloc _) ⟨wr.heap.size,0,none⟩ 1 1 [.int .u8 (bs[j].toNat:Int)] (by simp[Act.eval]) rfl (YB _ _ _) (by intro u hu;simp at hu;subst hu;rfl) (by unfold maxLen;omega) (by omega) (by(try simp);omega) ?_;rintro v8 w8 hown8 hg8 - -;have HS8:=HS.step hjx (Zbi wr _) hg8 hown8;obtain⟨hs8,hl8,hf8,hc8,g8,c8,rfl⟩:=HS8;have HS9:=Xa hs8;have ej8:=HGr.out _ hl8;have hf80:=hf8 0;clear hown8 hg8 hs8 hl8 hf8;refine hK _ _ (by first | with_reducible exact hHeld | ((try dsimp only);go_keep)) (fun hHeld=>?_);clear hK;refine Xl 8 ?_;refine Xw 9 (fun K hK=>?_);go_simp;refine hK _ _ ((World.cell?_setCell_far _ _ _ _ (Ne.symm hbn)).trans ej8) (fun hHeld=>?_);clear hK;refine Y7 ?_;go_wp2;exact⟨⟨j+1,by omega,by omega,by go_num,_,Xa HS9.out⟩,by simp[intOf];omega⟩
  ·have HE:Hid (bs.take j=bs.take 4000):=Xa (by
    have:=hx.out;by_cases h4:j=4000
    ·rw[h4]
    ·rw[List.take_of_length_le (by omega),List.take_of_length_le (by omega)])
   obtain⟨av,cv,rfl,hat⟩:=HS.done HE.out;have HA:=Xa hat;have HLO:=Xa HS.low;have HSZ:=Xa HS.size;have HX:=Xa (show(((n:Int) % 1000)+29)=(((bs.length % 1000:Nat):Int)+29) by have:=hx.out;omega);clear hat HE HS;have e0:=HA.c2;have e2:=HA.c2;have z2:=HA.thaw 2;dsimp only at e2;by_cases hlt1:j<n
   ·have hlt4:¬j<4000:=fun h=>hlt ⟨hlt1,h⟩
    go_wp2;clear e2 z2 e0;generalize wr=wo at *
    go_loopw [5] (fun u wq=>∃i:Nat,i<=(bs.take 4000).length/\u=.int .i64 i/\Hid (Below w.heap.size w wq)/\Hid (wq.heap.size=wo.heap.size)/\Hid (ZL wq w.heap.size (w.heap.size+1) wo.heap.size ⟨bs.take 4000,0,J8 ((bs.take 4000).take i) (((bs.length % 1000:Nat):Int)+29),0⟩)) (fun u _=>(bs.take 4000).length-(intOf u).toNat)
    case atStart=>exact⟨0,Nat.zero_le _,rfl,Xa (HLO.setCell (Nat.le_refl _) _),Xa (Xd _ _ _),Xa (by
     rw[List.take_zero,HX.out];exact(HA.mix (((bs.length % 1000:Nat):Int)+29)).undrew)⟩
    case round =>
     obtain⟨i,hi,rfl,HBq,HZ,HQ⟩:=hrel;obtain⟨aq,cq,e0,hbq⟩:=HQ.c0;have e2:=HQ.c2;have e3:=HQ.c3;have z2:=HQ.thaw 2;have z3:=HQ.thaw 3;dsimp only at e0 e2 e3 hbq;have hmr:=Vl ((bs.take 4000).take i) (((bs.length % 1000:Nat):Int)+29) (by omega) (by have:=Nat.mod_lt bs.length (show 0<1000 by decide);omega);have HM1:Hid (∀h:i<(bs.take 4000).length,J8 ((bs.take 4000).take (i+1)) (((bs.length % 1000:Nat):Int)+29)=(J8 ((bs.take 4000).take i) (((bs.length % 1000:Nat):Int)+29)*257+((bs.take 4000)[i].toNat:Int)+1) % 1000003):=Xa (fun h=>Zb3 _ _ i h);have HE2:Hid (i=(bs.take 4000).length->J8 ((bs.take 4000).take i) (((bs.length % 1000:Nat):Int)+29)=J8 (bs.take 4000) (((bs.length % 1000:Nat):Int)+29)):=Xa (fun h=>by rw[h,List.take_length]);have HSR:Hid (Vf bs=⟨bs.take 4000,0,J8 (bs.take 4000) (((bs.length % 1000:Nat):Int)+29),if 1+(((bs.take 4000).length:Nat):Int) / 50 > 7 then 7 else 1+(((bs.take 4000).length:Nat):Int) / 50⟩):=Xa rfl;have hlen:(bs.take 4000).length<=4000:=by rw[List.length_take];omega
     generalize (((bs.length % 1000:Nat):Int)+29)=m0 at *;generalize hmx:J8 ((bs.take 4000).take i) m0=mx at *;generalize bs.take 4000=cd at *;have HBB:=Xa hbq;clear hbq hmx;by_cases hlt2:i<cd.length
     ·obtain⟨bq,oq,rfl,hbB,ec⟩:=HBB.out i hlt2
      have HM:=Xa (HM1.out hlt2);have hby:cd[i].toNat<256:=UInt8.toNat_lt _;generalize cd[i]=by0 at *;generalize by0.toNat=bn at *;have hrem:(mx*257+(bn:Int)+1).tmod 1000003=(mx*257+(bn:Int)+1) % 1000003:=Int.tmod_eq_emod_of_nonneg (by omega);have hlt2':(i:Int)<(cd.length:Int):=by omega
      clear HM1 HE2 HSR;generalize hcl:cd.length=cl at *;go_wp2
      go_region
      go_wp2;exact⟨⟨i+1,by omega,by go_num,Xa (HBq.setCell (Nat.le_refl _) _).drew,Xa ((Xd _ _ _).trans HZ.out),Xa (by rw[HM.out];exact HQ.mix _)⟩,by simp[intOf];omega⟩
     ·have hie:i=cd.length:=by omega
      have HF:Hid (ZL wr w.heap.size (w.heap.size+1) wo.heap.size ⟨cd,0,J8 cd m0,0⟩):=Xa (by rw[<-HE2.out hie];exact HQ.out);have HSR2:=HSR;clear HE2 HM1 HQ HBB HSR;have HSR:=HSR2;clear HSR2;generalize hcl:cd.length=cl at *;have hsz:=HLO.size;by_cases h7:1+(cl:Int) / 50 > 7
      ·have HR:=Xa (HSR.trans (by rw[if_pos h7]))
       go_wp2
       go_ret
       refine⟨rfl,(HBq.setCell (Nat.le_refl _) _).setCell (Nat.le_refl _) _,?_,?_⟩
       ·rw[Xd,Xd,HZ.out];exact HSZ.out
       ·rw[Xd,Xd,HZ.out,HR.out]
        exact(HF.siz _).siz _
      ·have HR:=Xa (HSR.trans (by rw[if_neg h7]))
       go_wp2
       go_ret
       refine⟨rfl,HBq.setCell (Nat.le_refl _) _,?_,?_⟩
       ·rw[Xd,HZ.out];exact HSZ.out
       ·rw[Xd,HZ.out,HR.out]
        exact HF.siz _
   ·skip
    go_wp2;clear e2 z2 e0;generalize wr=wo at *
    go_loopw [5] (fun u wq=>∃i:Nat,i<=(bs.take 4000).length/\u=.int .i64 i/\Hid (Below w.heap.size w wq)/\Hid (wq.heap.size=wo.heap.size)/\Hid (ZL wq w.heap.size (w.heap.size+1) wo.heap.size ⟨bs.take 4000,0,J8 ((bs.take 4000).take i) (((bs.length % 1000:Nat):Int)+29),0⟩)) (fun u _=>(bs.take 4000).length-(intOf u).toNat)
    case atStart=>exact⟨0,Nat.zero_le _,rfl,Xa (HLO.setCell (Nat.le_refl _) _),Xa (Xd _ _ _),Xa (by
     rw[List.take_zero,HX.out];exact(HA.mix (((bs.length % 1000:Nat):Int)+29)).undrew)⟩
    case round =>
     obtain⟨i,hi,rfl,HBq,HZ,HQ⟩:=hrel;obtain⟨aq,cq,e0,hbq⟩:=HQ.c0;have e2:=HQ.c2;have e3:=HQ.c3;have z2:=HQ.thaw 2;have z3:=HQ.thaw 3;dsimp only at e0 e2 e3 hbq;have hmr:=Vl ((bs.take 4000).take i) (((bs.length % 1000:Nat):Int)+29) (by omega) (by have:=Nat.mod_lt bs.length (show 0<1000 by decide);omega);have HM1:Hid (∀h:i<(bs.take 4000).length,J8 ((bs.take 4000).take (i+1)) (((bs.length % 1000:Nat):Int)+29)=(J8 ((bs.take 4000).take i) (((bs.length % 1000:Nat):Int)+29)*257+((bs.take 4000)[i].toNat:Int)+1) % 1000003):=Xa (fun h=>Zb3 _ _ i h);have HE2:Hid (i=(bs.take 4000).length->J8 ((bs.take 4000).take i) (((bs.length % 1000:Nat):Int)+29)=J8 (bs.take 4000) (((bs.length % 1000:Nat):Int)+29)):=Xa (fun h=>by rw[h,List.take_length]);have HSR:Hid (Vf bs=⟨bs.take 4000,0,J8 (bs.take 4000) (((bs.length % 1000:Nat):Int)+29),if 1+(((bs.take 4000).length:Nat):Int) / 50 > 7 then 7 else 1+(((bs.take 4000).length:Nat):Int) / 50⟩):=Xa rfl;have hlen:(bs.take 4000).length<=4000:=by rw[List.length_take];omega
     generalize (((bs.length % 1000:Nat):Int)+29)=m0 at *;generalize hmx:J8 ((bs.take 4000).take i) m0=mx at *;generalize bs.take 4000=cd at *;have HBB:=Xa hbq;clear hbq hmx;by_cases hlt2:i<cd.length
     ·obtain⟨bq,oq,rfl,hbB,ec⟩:=HBB.out i hlt2
      have HM:=Xa (HM1.out hlt2);have hby:cd[i].toNat<256:=UInt8.toNat_lt _;generalize cd[i]=by0 at *;generalize by0.toNat=bn at *;have hrem:(mx*257+(bn:Int)+1).tmod 1000003=(mx*257+(bn:Int)+1) % 1000003:=Int.tmod_eq_emod_of_nonneg (by omega);have hlt2':(i:Int)<(cd.length:Int):=by omega
      clear HM1 HE2 HSR;generalize hcl:cd.length=cl at *;go_wp2
      go_region
      go_wp2;exact⟨⟨i+1,by omega,by go_num,Xa (HBq.setCell (Nat.le_refl _) _).drew,Xa ((Xd _ _ _).trans HZ.out),Xa (by rw[HM.out];exact HQ.mix _)⟩,by simp[intOf];omega⟩
     ·have hie:i=cd.length:=by omega
      have HF:Hid (ZL wr w.heap.size (w.heap.size+1) wo.heap.size ⟨cd,0,J8 cd m0,0⟩):=Xa (by rw[<-HE2.out hie];exact HQ.out);have HSR2:=HSR;clear HE2 HM1 HQ HBB HSR;have HSR:=HSR2;clear HSR2;generalize hcl:cd.length=cl at *;have hsz:=HLO.size;by_cases h7:1+(cl:Int) / 50 > 7
      ·have HR:=Xa (HSR.trans (by rw[if_pos h7]))
       go_wp2
       go_ret
       refine⟨rfl,(HBq.setCell (Nat.le_refl _) _).setCell (Nat.le_refl _) _,?_,?_⟩
       ·rw[Xd,Xd,HZ.out];exact HSZ.out
       ·rw[Xd,Xd,HZ.out,HR.out]
        exact(HF.siz _).siz _
      ·have HR:=Xa (HSR.trans (by rw[if_neg h7]))
       go_wp2
       go_ret
       refine⟨rfl,HBq.setCell (Nat.le_refl _) _,?_,?_⟩
       ·rw[Xd,HZ.out];exact HSZ.out
       ·rw[Xd,HZ.out,HR.out]
        exact HF.siz _
end Go.Proofs.YtkehcdfalcakmaaGreatDoor
