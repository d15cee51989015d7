import Derived.Test.YtlmgmkmomaileaaGreatDoorW15
namespace Go.Proofs.YtlmgmkmomaileaaGreatDoor
set_option maxHeartbeats 2000000
open Go.RowKit
theorem Zfw(a:Option Addr)(n c:Nat)(p:Int)(ps:List Int)(L B:Nat)(w:World)(ha:Hid (Xf w L B a ps))(hx:Hid (n=ps.length))(hn:n<=1048576)(hm:Hid (p∈ps)) :
 Calls Tryz.prog 118 #[.slice a n c,.int .i64 p] w fun e w'=>e=.returned (.int .i64 (ZX ps p))/\w'=w:=by
 have hl:=VE hm.out;have hat:=ZeX hl;generalize hI:ZX ps p=I at *
 go_enter Tryz.func118,Tryz.ntmps118
 go_wp2
 go_loopw [8] (fun i wr=>∃k:Nat,k<=I/\i=.int .i64 k/\wr=w) (fun i _=>n-(intOf i).toNat)
 case atStart=>exact⟨0,Nat.zero_le _,rfl,rfl⟩
 case round =>
  obtain⟨k,hk,rfl,rfl⟩:=hrel;have hkx:k<ps.length:=oM;have hkn:k<n:=by have:=hx.out;omega
  obtain⟨b,o,rfl,_,hc⟩:=ha.out k hkx;by_cases e:k=I
  ·subst e
   rw[hat]at hc;go_wp2
   go_ret
   exact⟨rfl,rfl⟩
  ·have he:(p==ps[k])=false:=Ziw oM hkx
   generalize ps[k]=X at *;go_wp2;exact⟨⟨k+1,oM,gM,trivial⟩,by simp[intOf];omega⟩
def ZK(w:World)(L B:Nat)(a:Option Addr)(ts:List (Int × Int)):Prop :=
 ∀i (h:i<ts.length),∃b o,a=some ⟨b,o,none⟩/\(L<=b/\b<B)/\w.cell? ⟨b,o+i*2,none⟩=some (.int .i64 ts[i].1)/\w.cell? ⟨b,o+i*2+1,none⟩=some (.int .i64 ts[i].2)
theorem ZK.keepS{w w':World}{L B:Nat}{a:Option Addr}{ts:List (Int × Int)}(h:ZK w L B a ts)(k:Xv L B w w'):ZK w' L B a ts:=fun i hi=>by
 obtain⟨b,o,e,hb,h1,h2⟩:=h i hi;exact⟨b,o,e,hb,(Xc (k b hb.1 hb.2)).trans h1,(Xc (k b hb.1 hb.2)).trans h2⟩
theorem ZK.mono{w:World}{L B L' B':Nat}{a:Option Addr}{ts:List (Int × Int)}(h:ZK w L B a ts)(l:L'<=L)(k:B<=B'):ZK w L' B' a ts:=fun i hi=>by
 obtain⟨b,o,e,hb,h1,h2⟩:=h i hi;exact⟨b,o,e,oM,h1,h2⟩
def Zj:List (Int × Int)->List Value
 | []=>[]
 | t::ts=>.int .i64 t.1::.int .i64 t.2::Zj ts
theorem Zcx(ts:List (Int × Int))(t:Int × Int):Zj (ts++[t])=Zj ts++[.int .i64 t.1,.int .i64 t.2]:=by
 induction ts with
 | nil=>rfl
 | cons x ts ih=>simp[Zj,ih]
theorem ZaL:∀(ts:List (Int × Int))(i:Nat)(h:i<ts.length),(Zj ts)[i*2]?=some (.int .i64 ts[i].1)/\(Zj ts)[i*2+1]?=some (.int .i64 ts[i].2)
 | [],i,h=>absurd h sP
 | t::ts,0,_=>by simp[Zj]
 | t::ts,i+1,h=>by
  have:=ZaL ts i (by simpa using h);rw[show(i+1)*2=i*2+1+1 by omega];simpa [Zj]using this
theorem Zgf(b j:Nat):(⟨b,0,none⟩:Addr).add j=⟨b,0+j,none⟩:=by unfold Addr.add;split<;>simp_all
theorem Zdn{w:World}{base e:Nat}{ta:Option Addr}{nt ct n:Nat}{ts:List (Int × Int)}(h:w.ownsRow base e 2 (.slice ta nt ct) n (Zj ts)):ZK w base w.heap.size ta ts:=fun i hi=>by
 obtain⟨h1,h2⟩:=ZaL ts i hi;cases ta with
 | none =>
  exfalso;rcases h.2 with⟨_,e2⟩ | ⟨_,_,_,e2,_⟩
  ·have hl:=h.1
   have:i*2<(Zj ts).length:=(List.getElem?_eq_some_iff.1 h1).1;omega
  ·injection e2 with e3;injection e3
 | some ad =>
  have hg:(Value.slice (some ad) nt ct).ownBlock=some ad.block:=rfl;have hb:=h.lt _ hg;have e2:ad=⟨ad.block,0,none⟩:=by
   rcases h.2 with⟨e3,_⟩ | ⟨_,_,_,e3,_⟩
   ·injection e3 with e4;injection e4
   ·injection e3 with e4;injection e4 with e4;rw[e4]
  have c1:=h.cells hg _ _ h1;have c2:=h.cells hg _ _ h2;rw[Zgf]at c1 c2;exact⟨ad.block,0,congrArg some e2,hb,c1,c2⟩
theorem US{w w1:World}{B t s:Nat}{x:Value}{n:Nat}{xs:List Value}(h:w.ownsRow B t s x n xs)(k:∀b,x.ownBlock=some b->w1.heap[b]?=w.heap[b]?):w1.ownsRow B t s x n xs:=by
 obtain⟨hl,h | ⟨g,cap,cur,rfl,hg,hh,hc⟩⟩:=h
 ·exact⟨hl,Or.inl h⟩
 ·exact⟨hl,Or.inr ⟨g,cap,cur,rfl,hg,(k g rfl).trans hh,hc⟩⟩
structure To(w:World)(E:Nat)(t:Int)(ta:Option Addr)(nt ct:Nat)(ts:List (Int × Int)):Prop where
 c0:w.cell? ⟨E,0,none⟩=some (.int .i64 t)
 c1:w.cell? ⟨E,1,none⟩=some (.slice ta nt ct)
 fz:∀o,w.frozen? ⟨E,o,none⟩=false
 own:w.ownsRow (E+1) 162 2 (.slice ta nt ct) nt (Zj ts)
theorem To.push{w W w1:World}{E:Nat}{t:Int}{ta:Option Addr}{nt ct:Nat}{ts:List (Int × Int)}(h:To w E t ta nt ct ts)(hW:Below w.heap.size w W)(hE:E<w.heap.size){g cap:Nat}{x y:Int}
 (ho:w1.ownsRow (E+1) 162 2 (.slice (some ⟨g,0,none⟩) (nt+1) cap) (nt+1) (Zj ts++[.int .i64 x,.int .i64 y])) (hg:W.grownBy w1 (Value.slice ta nt ct).ownBlock) :
 To (w1.setCell ⟨E,1,none⟩ (.slice (some ⟨g,0,none⟩) (nt+1) cap)) E t (some ⟨g,0,none⟩) (nt+1) cap (ts++[(x,y)]):=by
 have hws:=hW.size;have k:w1.heap[E]?=w.heap[E]?:=(hg.block E oM (fun e=>by have:=(h.own.lt _ e.symm).1;omega)).trans (hW.block E hE);have hgE:=ho.lt g rfl;refine⟨?_,?_,fun o=>(World.frozen?_setCell _ _ _ _).trans ((World.frozen?_of_block k).trans (h.fz o)),?_⟩
 ·rw[World.cell?_setCell_other _ _ _ _ (by intro e;injection e with _ e;omega)]
  exact(Xc k).trans h.c0
 ·exact World.cell?_setCell_same _ _ _ ((Xc k).trans h.c1)
 ·rw[Zcx]
  exact US ho (fun b e=>Below.heap_setCell _ _ _ _ (fun e2=>by injection e with e;dsimp only at e e2;omega))
theorem Tryz.info165:(Tryz.prog.info? 162).map (fun i=>(i.zero,i.size,i.bytes))=some (some (.agg #[.int .i64 0,.int .i64 0]),2,16):=vZ
theorem UR{W w1:World}{row:Option Nat}(hg:W.grownBy w1 row){k:Nat}(hk:k<W.heap.size)(hn:some k≠row):(∀o,w1.cell? ⟨k,o,none⟩=W.cell? ⟨k,o,none⟩)/\(∀o,w1.frozen? ⟨k,o,none⟩=W.frozen? ⟨k,o,none⟩) :=
 ⟨fun o=>hg.cell_far ⟨k,o,none⟩ hk hn,fun o=>hg.frozen_far ⟨k,o,none⟩ hk hn⟩
theorem ZbB(v:Int)(a:Option Addr)(n c:Nat)(pa:Option Addr)(pn pc:Nat)(p t:Nat)(xs:List Xh)(pss:List (List Int))(X:Xh)(ps:List Int)(nv:Int)(L B L2 B2:Nat)(w:World)
 (ha:Hid (Xk w L B a xs)) (hx:Hid (n=xs.length)) (hB:B<=w.heap.size) (hp:Hid (XM w L2 B2 pa pss)) (hpn:Hid (pn=pss.length)) (hB2:B2<=w.heap.size) (ht:t<n) (htp:t<pn)
 (hX:Hid (∀h:t<xs.length,xs[t]=X)) (hps:Hid (∀h:t<pss.length,pss[t]=ps)) (hpl:ps.length<=1048576) (hphl:X.phis.length<=1048576) (hm:Hid ((p:Int)∈ps)) (hok:Hid (∀i (h:i<X.phis.length),Zd nv ps.length X.phis[i]=true)) :
 Calls Tryz.prog 78 #[.agg #[.int .i64 v,.slice a n c],.slice pa pn pc,.int .i64 p,.int .i64 t] w
  fun e w'=>∃ta ct,e=.returned (.agg #[.int .i64 t,.slice ta X.phis.length ct])/\Below w.heap.size w w'/\ZK w' w.heap.size w'.heap.size ta (takesR (ZX ps p) X.phis):=by
 have htx:t<xs.length:=by have:=hx.out;omega
 have htq:t<pss.length:=by have:=hpn.out;omega
 obtain⟨i0,hi0,hz0,hz1,hz2⟩:=info_parts Tryz.info165;obtain⟨b,o,rfl,⟨_,hbB⟩,hc⟩:=ha.out t htx;rw[hX.out htx]at hc;obtain⟨fa,fc,ia,ic,e0,-,-,hph,-⟩:=hc;obtain⟨b2,o2,rfl,⟨_,hb2⟩,qa,qc,q0,hq⟩:=hp.out t htq;rw[hps.out htq]at q0 hq;have bl:=fun x y z=>Xb (Xb (Xb (Below.refl w.heap.size w) x) y) z
 have E0:=fun x y z=>((bl x y z).cell (p:=⟨b,o+t*6,none⟩) (by show b<_;omega)).trans e0
 have Q0:=fun x y z=>((bl x y z).cell (p:=⟨b2,o2+t,none⟩) (by show b2<_;omega)).trans q0
 have HQ:=fun x y z=>Xa (hq.keep ((bl x y z).mono hB2))
 have hI:=Xa (VE hm.out);have HPH:=Xa hph;have hs0:w.heap.size+1+1+1<=w.heap.size+1+1+1:=Nat.le_refl _;clear hph hq;have ST:∀x,To (((w.alloc x).alloc (.cells #[.int .i64 0,.slice none 0 0] 159)).alloc (.cells #[.int .i64 t,.slice none 0 0] 159)) (w.heap.size+1+1) t none 0 0 []:=fun x=>⟨by simp[go_sem],by simp[go_sem],fun o=>by simp[go_sem],World.ownsRow_nil _ _ _ _⟩
 go_enter Tryz.func78,Tryz.ntmps78
 go_wp2_with (go_at_call 118;refine(Zfw qa ps.length qc p ps L2 B2 _ (HQ _ _ _) rfl hpl hm).mono ?_;rintro e w1 ⟨rfl,rfl⟩)
 generalize hIe:ZX ps p=I at *;have hbb:=bl (.cells #[.int .i64 v,.slice (some ⟨b,o,none⟩) n c] 33) (.cells #[.int .i64 0,.slice none 0 0] 159) (.cells #[.int .i64 t,.slice none 0 0] 159);have hst:=ST (.cells #[.int .i64 v,.slice (some ⟨b,o,none⟩) n c] 33);have r0:((w.alloc (.cells #[.int .i64 v,.slice (some ⟨b,o,none⟩) n c] 33)).alloc (.cells #[.int .i64 0,.slice none 0 0] 159)).alloc (.cells #[.int .i64 t,.slice none 0 0] 159)=((w.alloc (.cells #[.int .i64 v,.slice (some ⟨b,o,none⟩) n c] 33)).alloc (.cells #[.int .i64 0,.slice none 0 0] 159)).alloc (.cells #[.int .i64 t,.slice none 0 0] 159):=rfl;clear r0 ST bl HQ Q0 q0;have hR0:∀o,(((w.alloc (.cells #[.int .i64 v,.slice (some ⟨b,o,none⟩) n c] 33)).alloc (.cells #[.int .i64 0,.slice none 0 0] 159)).alloc (.cells #[.int .i64 t,.slice none 0 0] 159)).frozen? ⟨w.heap.size+1,o,none⟩=false:=fun o=>by simp[go_sem]
 go_loopw [28] (fun i wr=>∃(k:Nat)(ta:Option Addr)(ct:Nat),k<=X.phis.length/\i=.int .i64 k/\Hid (Below w.heap.size w wr)/\w.heap.size+1+1+1<=wr.heap.size/\Hid (To wr (w.heap.size+1+1) t ta k ct (takesR I (X.phis.take k)))/\Hid (wr.cell? ⟨w.heap.size+1,0,none⟩=some (.int .i64 0)/\wr.cell? ⟨w.heap.size+1,1,none⟩=some (.slice none 0 0)/\∀o,wr.frozen? ⟨w.heap.size+1,o,none⟩=false)) (fun i _=>X.phis.length-(intOf i).toNat)
 case atStart=>exact⟨0,none,0,Nat.zero_le _,rfl,Xa hbb,sP,Xa (by simpa [takesR]using hst),Xa ⟨by simp[go_sem],by simp[go_sem],fun o=>by simp[go_sem]⟩⟩
 case round =>
  obtain⟨k,ta,ct,hk,rfl,hw,hws,hem,hrr⟩:=hrel;clear hbb hst hR0 E0 e0;by_cases hkl:k<X.phis.length
  ·obtain⟨b',o',rfl,⟨_,hb'⟩,aa,cc,g0,g1,har⟩:=HPH.out k hkl
   obtain⟨⟨d0,d1⟩,hal,hav⟩:=ZdN (hok.out k hkl);have hnx:takesR I (X.phis.take (k+1))=takesR I (X.phis.take k)++[(X.phis[k].dst,X.phis[k].args.getD I 0)]:=by unfold takesR;rw[Xq _ _ hkl,List.map_append];rfl
   have hIa:I<X.phis[k].args.length:=by have:=hI.out;omega
   have hag:X.phis[k].args.getD I 0=X.phis[k].args[I]:=by simp[hIa]
   rw[hag]at hnx;obtain⟨b3,o3,rfl,⟨_,hb3⟩,h3⟩:=har I hIa;have G0:=(Xu hw.out oM).trans g0;have G1:=(Xu hw.out oM).trans g1;have G3:=(Xu hw.out oM).trans h3;have HNX:=Xa hnx;have hal2:X.phis[k].args.length<=1048576:=oM;clear hnx hag har hav hal h3 g0 g1;generalize X.phis[k].args[I]=AQ at *;generalize X.phis[k].args.length=al at *;generalize X.phis[k].dst=dst at *;generalize takesR I (X.phis.take k)=TS at *;have c3:∀x y,(((wr.alloc x).drew).alloc y).cell? ⟨b3,o3+I,none⟩=some (.int .i64 AQ):=fun x y=>((Xb (Xb (Below.refl wr.heap.size wr) x).drew y).cell (p:=⟨b3,o3+I,none⟩) (by show b3<_;omega)).trans G3
   have m1:∀x y,(((wr.alloc x).drew).alloc y).cell? ⟨w.heap.size+1+1,1,none⟩=some (.slice ta k ct):=fun x y=>((Xb (Xb (Below.refl wr.heap.size wr) x).drew y).cell (p:=⟨w.heap.size+1+1,1,none⟩) (by show w.heap.size+1+1<_;omega)).trans hem.c1
   have mz:∀x y o,(((wr.alloc x).drew).alloc y).frozen? ⟨w.heap.size+1+1,o,none⟩=false:=fun x y o=>((Xb (Xb (Below.refl wr.heap.size wr) x).drew y).frozen (p:=⟨w.heap.size+1+1,o,none⟩) (by show w.heap.size+1+1<_;omega)).trans (hem.fz o)
   have m1':∀x,((wr.alloc x).drew).cell? ⟨w.heap.size+1+1,1,none⟩=some (.slice ta k ct):=fun x=>(((Xb (Below.refl wr.heap.size wr) x).drew).cell (p:=⟨w.heap.size+1+1,1,none⟩) (by show w.heap.size+1+1<_;omega)).trans hem.c1
   have m2:∀x y,((wr.alloc x).alloc y).cell? ⟨w.heap.size+1+1,1,none⟩=some (.slice ta k ct):=m1;have m3:∀x,(wr.alloc x).cell? ⟨w.heap.size+1+1,1,none⟩=some (.slice ta k ct):=m1';have HOW:∀x y,(((wr.alloc x).drew).alloc y).ownsRow (w.heap.size+1+1+1) 162 2 (.slice ta k ct) k (Zj TS):=fun x y=>US hem.own (fun b e=>((Xb (Xb (Below.refl wr.heap.size wr) x).drew y).block b (hem.own.lt b e).2))
   have hno:∀q,wr.heap.size<=q->some q≠(Value.slice ta k ct).ownBlock:=fun q hq e=>by have:=(hem.own.lt q e.symm).2;omega
   have hno3:∀q,q<w.heap.size+1+1+1->some q≠(Value.slice ta k ct).ownBlock:=fun q hq e=>by have:=(hem.own.lt q e.symm).1;omega
   have HP:∀(x y:Obj)(g cap:Nat)(w1:World),w1.ownsRow (w.heap.size+1+1+1) 162 2 (.slice (some ⟨g,0,none⟩) (k+1) cap) (k+1) (Zj TS++[.int .i64 dst,.int .i64 AQ])->(((wr.alloc x).drew).alloc y).grownBy w1 (Value.slice ta k ct).ownBlock ->
    To (w1.setCell ⟨w.heap.size+1+1,1,none⟩ (.slice (some ⟨g,0,none⟩) (k+1) cap)) (w.heap.size+1+1) t (some ⟨g,0,none⟩) (k+1) cap (TS++[(dst,AQ)])/\Below w.heap.size w w1/\w1.heap[w.heap.size+1]?=wr.heap[w.heap.size+1]?/\wr.heap.size<=w1.heap.size:=fun x y g cap w1 ho hg=>by
    have hb:=Xb (Xb (Below.refl wr.heap.size wr) x).drew y;have hgs:=hg.size;have hbs:=hb.size;exact⟨hem.push hb oM ho hg,Xr (hw.trans (hb.mono oM)) hg (HOW x y) oM oM,(hg.block _ oM (hno3 _ oM)).trans (hb.block _ oM),oM⟩
   have n1:wr.heap.size≠b3:=oM;have n2:b3≠wr.heap.size:=oM;have n3:w.heap.size+1+1≠b3:=oM;have n4:b3≠w.heap.size+1+1:=oM;have n5:w.heap.size+1+1≠wr.heap.size:=oM;have n6:wr.heap.size≠w.heap.size+1+1:=oM;have hIl:=hI.out;go_wp2;refine Z1 (fun w'=>w'.cell? ⟨wr.heap.size,0,none⟩=some (.int .i64 dst)/\w'.cell? ⟨wr.heap.size,1,none⟩=some (.slice (some ⟨b3,o3,none⟩) al cc)/\w'.cell? ⟨b3,o3+I,none⟩=some (.int .i64 AQ)) (fun hHeld=>?_);refine Xi 0 ?_;refine Xi 2 ?_;refine Xi 3 ?_;refine Xi 4 ?_;refine Xi 5 ?_;refine Xi 6 ?_;refine Xi 7 ?_;refine Xi 8 ?_;refine Xi 9 ?_;refine wpAnyH_ready (rs:=[1,10]) vZ sP ?_;refine(AllReadyH.cons rfl (fun K hK=>?_) (AllReadyH.cons rfl (fun K hK=>?_) AllReadyH.nil))
   ·skip
    go_simp;refine hK _ _ (by first | exact hHeld | ((try dsimp only);go_keep)) (fun hHeld=>?_);clear hK
    try simp only[Act.put,xA,xB,xC,xD,xE,xF]
    refine Xt 10 (fun K hK=>?_);go_simp;refine hK _ _ (by first | exact hHeld | ((try dsimp only);go_keep)) (fun hHeld=>?_);clear hK;refine Xt 11 (fun K hK=>?_);refine step_append_lies _ rfl (.tmp 33) (.tmp 42) 157 rfl (w.heap.size+1+1+1) 162 i0 (.agg #[.int .i64 0,.int .i64 0]) 2 16 Tryz.underlying157 hi0 hz0 hz1 hz2 rfl dC (.slice ta k ct) k (Zj TS) (by simp[Act.eval]) (HOW _ _) ⟨wr.heap.size+1,0,none⟩ 1 1 [.int .i64 dst,.int .i64 AQ] (by simp[Act.eval]) rfl ?_ (by intro u hu;simp at hu;rcases hu with rfl | rfl<;>rfl) dC (by unfold maxLen;omega) oM (by simp;omega) (wr.heap.size+1+1) sP ?_
    ·intro j u hj
     match j,hj with
     | 0,hj=>simp at hj;subst hj;simp[Addr.add,go_sem]
     | 1,hj=>simp at hj;subst hj;simp[Addr.add,go_sem]
    intro g cap w1 hown hgrow hat hlt;have HN:=Xa (HP _ _ g cap w1 hown hgrow);obtain⟨f0,-⟩:=UR hgrow (k:=wr.heap.size) (by simp<;>omega) (hno _ oM);obtain⟨f3,-⟩:=UR hgrow (k:=b3) (by simp<;>omega) (hno3 _ oM);obtain⟨f1,e1⟩:=UR hgrow (k:=w.heap.size+1+1) (by simp<;>omega) (hno3 _ oM);have kx:w1.cell? ⟨wr.heap.size,0,none⟩=some (.int .i64 dst):=(f0 0).trans (by simp[go_sem]);have ky:w1.cell? ⟨wr.heap.size,1,none⟩=some (.slice (some ⟨b3,o3,none⟩) al cc):=(f0 1).trans (by simp[go_sem]);have kz:w1.cell? ⟨b3,o3+I,none⟩=some (.int .i64 AQ):=(f3 _).trans (c3 _ _);have k1:w1.cell? ⟨w.heap.size+1+1,1,none⟩=some (.slice ta k ct):=(f1 1).trans (m1 _ _);have z1:∀o,w1.frozen? ⟨w.heap.size+1+1,o,none⟩=false:=fun o=>(e1 o).trans (mz _ _ o)
    clear f0 f1 f3 e1 hown hgrow hat hlt;refine hK _ _ (by first | exact hHeld | ((try dsimp only);go_keep)) (fun hHeld=>?_);clear hK;refine Xi 12 ?_;refine Xt 13 (fun K hK=>?_);go_simp;refine hK _ _ (by first | exact hHeld | ((try dsimp only);go_keep)) (fun hHeld=>?_);clear hK;refine YA ?_;go_wp2;have kk:(w1.setCell ⟨w.heap.size+1+1,1,none⟩ (.slice (some ⟨g,0,none⟩) (k+1) cap)).heap[w.heap.size+1]?=wr.heap[w.heap.size+1]?:=(Below.heap_setCell _ _ _ _ (by show w.heap.size+1≠w.heap.size+1+1;omega)).trans HN.2.2.1;exact⟨⟨k+1,some ⟨g,0,none⟩,cap,oM,gM,Xa (HN.2.1.setCell (by show w.heap.size<=w.heap.size+1+1;omega) _),by have:=HN.2.2.2;simp only[Xe];omega,Xa (by rw[HNX.out];exact HN.1),Xa ⟨(Xc kk).trans hrr.1,(Xc kk).trans hrr.2.1,fun o=>(World.frozen?_of_block kk).trans (hrr.2.2 o)⟩⟩,by simp[intOf];omega⟩
   ·skip
    go_simp;refine hK _ _ (by first | exact hHeld | ((try dsimp only);go_keep)) (fun hHeld=>?_);clear hK
    try simp only[Act.put,xA,xB,xC,xD,xE,xF]
    refine Xt 1 (fun K hK=>?_);go_simp;refine hK _ _ (by first | exact hHeld | ((try dsimp only);go_keep)) (fun hHeld=>?_);clear hK;refine Xt 11 (fun K hK=>?_);refine step_append_lies _ rfl (.tmp 33) (.tmp 42) 157 rfl (w.heap.size+1+1+1) 162 i0 (.agg #[.int .i64 0,.int .i64 0]) 2 16 Tryz.underlying157 hi0 hz0 hz1 hz2 rfl dC (.slice ta k ct) k (Zj TS) (by simp[Act.eval]) (HOW _ _) ⟨wr.heap.size+1,0,none⟩ 1 1 [.int .i64 dst,.int .i64 AQ] (by simp[Act.eval]) rfl ?_ (by intro u hu;simp at hu;rcases hu with rfl | rfl<;>rfl) dC (by unfold maxLen;omega) oM (by simp;omega) (wr.heap.size+1+1) sP ?_
    ·intro j u hj
     match j,hj with
     | 0,hj=>simp at hj;subst hj;simp[Addr.add,go_sem]
     | 1,hj=>simp at hj;subst hj;simp[Addr.add,go_sem]
    intro g cap w1 hown hgrow hat hlt;have HN:=Xa (HP _ _ g cap w1 hown hgrow);obtain⟨f0,-⟩:=UR hgrow (k:=wr.heap.size) (by simp<;>omega) (hno _ oM);obtain⟨f3,-⟩:=UR hgrow (k:=b3) (by simp<;>omega) (hno3 _ oM);obtain⟨f1,e1⟩:=UR hgrow (k:=w.heap.size+1+1) (by simp<;>omega) (hno3 _ oM);have kx:w1.cell? ⟨wr.heap.size,0,none⟩=some (.int .i64 dst):=(f0 0).trans (by simp[go_sem]);have ky:w1.cell? ⟨wr.heap.size,1,none⟩=some (.slice (some ⟨b3,o3,none⟩) al cc):=(f0 1).trans (by simp[go_sem]);have kz:w1.cell? ⟨b3,o3+I,none⟩=some (.int .i64 AQ):=(f3 _).trans (c3 _ _);have k1:w1.cell? ⟨w.heap.size+1+1,1,none⟩=some (.slice ta k ct):=(f1 1).trans (m1 _ _);have z1:∀o,w1.frozen? ⟨w.heap.size+1+1,o,none⟩=false:=fun o=>(e1 o).trans (mz _ _ o)
    clear f0 f1 f3 e1 hown hgrow hat hlt;refine hK _ _ (by first | exact hHeld | ((try dsimp only);go_keep)) (fun hHeld=>?_);clear hK;refine Xi 12 ?_;refine Xt 13 (fun K hK=>?_);go_simp;refine hK _ _ (by first | exact hHeld | ((try dsimp only);go_keep)) (fun hHeld=>?_);clear hK;refine YA ?_;go_wp2;have kk:(w1.setCell ⟨w.heap.size+1+1,1,none⟩ (.slice (some ⟨g,0,none⟩) (k+1) cap)).heap[w.heap.size+1]?=wr.heap[w.heap.size+1]?:=(Below.heap_setCell _ _ _ _ (by show w.heap.size+1≠w.heap.size+1+1;omega)).trans HN.2.2.1;exact⟨⟨k+1,some ⟨g,0,none⟩,cap,oM,gM,Xa (HN.2.1.setCell (by show w.heap.size<=w.heap.size+1+1;omega) _),by have:=HN.2.2.2;simp only[Xe];omega,Xa (by rw[HNX.out];exact HN.1),Xa ⟨(Xc kk).trans hrr.1,(Xc kk).trans hrr.2.1,fun o=>(World.frozen?_of_block kk).trans (hrr.2.2 o)⟩⟩,by simp[intOf];omega⟩
  ·have hke:k=X.phis.length:=oM
   subst hke;obtain⟨m0,m1,mz,mo⟩:=hem.out;obtain⟨r0,r1,rz⟩:=hrr.out;have HO:=fun x y=>US (w1:=(wr.setCell ⟨w.heap.size+1,0,none⟩ x).setCell ⟨w.heap.size+1,1,none⟩ y) mo (fun b e=>by have:=(mo.lt b e).1;rw[Below.heap_setCell _ _ _ _ (by dsimp only;omega),Below.heap_setCell _ _ _ _ (by dsimp only;omega)])
   have HOH:=Xa HO;clear HO mo;go_wp2;refine bodyPost_ret (v:=.agg #[.int .i64 t,.slice ta X.phis.length ct]) (by simp[results,Tryz.results78,go_sem,r0,r1]) rfl ⟨ta,ct,rfl,(hw.setCell (by show w.heap.size<=w.heap.size+1;omega) _).setCell (by show w.heap.size<=w.heap.size+1;omega) _,?_⟩;have h:=Zdn (HOH.out (.int .i64 t) (.slice ta X.phis.length ct));rw[List.take_length]at h;rw[hIe];exact h.mono oM (Nat.le_refl _)
end Go.Proofs.YtlmgmkmomaileaaGreatDoor
