import Derived.Test.YthgikffcdgpgiaaGreatDoorW5b
namespace Go.Proofs.YthgikffcdgpgiaaGreatDoor
set_option maxHeartbeats 2000000
set_option maxRecDepth 100000
open Go.RowKit
def Zk(P:List Int)(k:Nat)(c:Nat):List Nat:=(List.range k).filter fun b=>P.getD b 0==(c:Int)
theorem ZaM(P:List Int)(c:Nat):Zk P P.length c=chP P c:=rfl
theorem ZeT(P:List Int)(k c:Nat):(Zk P k c).length<=k:=Nat.le_trans (List.length_filter_le _ _) sP
theorem ZeL{P:List Int}{k t:Nat}(h:P.getD k 0=(t:Int))(i:Nat):Xh (Zk P (k+1) i)=if i=t then Xh (Zk P k t)++[(k:Int)]else Xh (Zk P k i):=by
 unfold Zk;rw[List.range_succ,List.filter_append,List.filter_cons,List.filter_nil,h];by_cases e:i=t
 ·subst e
  rw[if_pos sP,if_pos rfl];simp[Xh]
 ·rw[if_neg (by simp;omega),if_neg e]
  simp[Xh]
theorem ZdI{P:List Int}{k:Nat}(h:P.getD k 0<0)(i:Nat):Zk P (k+1) i=Zk P k i:=by
 unfold Zk;rw[List.range_succ,List.filter_append,List.filter_cons,List.filter_nil,if_neg (by rw[beq_iff_eq];omega),List.append_nil]
theorem XV(l:List Nat):(Xh l).length=l.length:=by simp[Xh]
theorem Vk(a:Option Addr)(n c:Nat)(P:List Int)(L B:Nat)(w:World)(ha:Hid (Xg w L B a P))(hx:Hid (n=P.length))(hn:n<=1000)(hB:B<=w.heap.size)(hP:Hid (∀p∈P,p<n)) :
 Calls Tryz.prog 108 #[.slice a n c] w fun e w'=>∃a' c',e=.returned (.slice a' n c')/\Below w.heap.size w w'/\XF w' w.heap.size w'.heap.size a' ((List.range n).map fun i:Nat=>Xh (chP P i)):=by
 obtain⟨i0,hi0,hz0,hz1,hz2⟩:=info_parts Tryz.info2';have hmk:=run_make_row' (P:=Tryz.prog) 155 26 (.slice none 0 0) 24 Tryz.underlying155 Tryz.info45 rfl .i64 .i64 n oM oM
 go_enter Tryz.func108,Tryz.ntmps108
 go_wp2
 go_loopw [11] (fun i wr=>∃k:Nat,k<=n/\i=.int .i64 k/\Below w.heap.size w wr/\Hid (∃U,YC wr w.heap.size n (fun i=>Xh (Zk P k i)) U)) (fun i _=>n-(intOf i).toNat)
 case atStart=>exact⟨0,Nat.zero_le _,rfl,Xb (Below.refl _ _) _,⟨_,YC.born w n⟩⟩
 case round =>
  obtain⟨k,hk,rfl,hw,hrw⟩:=hrel;by_cases hlt:k<n
  ·have hkx:k<P.length:=by have:=hx.out;omega
   obtain⟨b,o,rfl,⟨_,hbB⟩,hc⟩:=ha.out k hkx;have hcw:=(XD hw oM).trans hc;have hpl:P[k]<n:=hP.out _ (List.getElem_mem hkx);have hpg:P.getD k 0=P[k]:=by simp[hkx]
   have HPG:=Xa hpg;clear hc hpg;generalize P[k]=p at *;by_cases hp:0<=p
   ·obtain⟨t,rfl⟩:=Int.eq_ofNat_of_zero_le hp
    have htn:t<n:=oM;obtain⟨U,hU⟩:=hrw.out;have hcU:=hU.1.cell htn;have hfU:=hU.1.frozen t;have hpl2:(Xh (Zk P k t)).length<=k:=by rw[XV];exact ZeT P k t
    have HU:=Xa hU;clear hU hrw
    go_wp2_with (at_builtin;refine wpList_append_own_at _ rfl _ _ 26 rfl (w.heap.size+1) 2 i0 (.int .i64 0) 1 8 Tryz.underlying26 hi0 hz0 hz1 hz2 rfl vZ _ _ _ rfl ((HU.alloc _).2.1 t htn) ⟨wr.heap.size,0,none⟩ 1 1 [.int .i64 k] rfl rfl ?c1 ?c2 ?c3 ?c4 ?c5 ?_)
    case c1 =>
     intro j u hj
     match j,hj with
     | 0,hj=>simp at hj;subst hj;simp[Addr.add]
    case c2=>intro u hu;simp at hu;subst hu;rfl
    case c3=>unfold maxLen;omega
    case c4=>omega
    case c5=>have:=HU.1.lt;simp;omega
    intro v1 w1 hown1 hgrow1 _ hat1;obtain⟨av,cv,hv,_⟩:=Xj (xs:=Xh (Zk P k t)++[(k:Int)]) (by rw[Ys];exact hown1);have hst:=Xa ((HU.alloc (.cells #[.int .i64 k] 2)).step htn k v1 hgrow1 hown1 (by rw[World.size_alloc];exact hat1));have hbG:w1.heap[w.heap.size]?=(wr.alloc (.cells #[.int .i64 k] 2)).heap[w.heap.size]?:=Y9 hgrow1 ((HU.alloc (.cells #[.int .i64 k] 2)).2.1 t htn) oM (by have:=HU.1.lt;simp;omega);have hbel:=Xa (XI (Xb hw (.cells #[.int .i64 k] 2)) hgrow1 ((HU.alloc (.cells #[.int .i64 k] 2)).2.1 t htn) oM (by have:=hw.size;simp;omega));have hcG:w1.cell? ⟨w.heap.size,t,none⟩=some (U t):=by rw[Xc hbG];exact((HU.alloc (.cells #[.int .i64 k] 2)).1).cell htn
    have hfG:w1.frozen? ⟨w.heap.size,t,none⟩=false:=by rw[World.frozen?_of_block (w:=wr.alloc (.cells #[.int .i64 k] 2)) (a:=⟨w.heap.size,t,none⟩) hbG];exact((HU.alloc (.cells #[.int .i64 k] 2)).1).frozen t
    have HV:=Xa hv;clear hown1 hgrow1 hat1 hbG hcU hfU;rw[hv];clear hv;go_wp2;have hv2:=HV.out;rw[List.length_append,List.length_cons,List.length_nil,Nat.zero_add]at hv2;rw[<-hv2];refine⟨⟨k+1,oM,gM,hbel.setCell (by dsimp only;omega) _,⟨_,(hst.out).congr (fun i _=>?_)⟩⟩,by simp[intOf];omega⟩;exact(ZeL HPG.out i).symm
   ·have hp':p<0:=oM
    have HM:=Xa (fun i=>ZdI (P:=P) (k:=k) (by rw[HPG.out];exact hp') i);go_wp2;refine⟨⟨k+1,oM,gM,hw,?_⟩,by simp[intOf];omega⟩;obtain⟨U,hU⟩:=hrw.out;exact⟨U,hU.congr (fun i _=>by rw[HM.out])⟩
  ·go_wp2
   go_ret
   obtain⟨U,hU⟩:=hrw.out;have e:k=P.length:=by have:=hx.out;omega
   refine⟨_,_,rfl,hw,?_⟩;have h:=(hU.congr (P':=fun i:Nat=>Xh (chP P i)) (fun i _=>by rw[e,ZaM])).ints;exact h.mono oM (Nat.le_refl _)
structure FrO(w w':World)(v v':Value):Prop where
 os:w'.os=w.os
 tape:w'.tape=w.tape
 output:w'.output=w.output
 size:w.heap.size<=w'.heap.size
 block:∀k,k<w.heap.size->some k≠v.ownBlock->w'.heap[k]?=w.heap[k]?
 own:v'.ownBlock=v.ownBlock\/∀k,v'.ownBlock=some k->w.heap.size<=k
theorem FrO.refl(w:World)(v:Value):FrO w w v v:=⟨rfl,rfl,rfl,Nat.le_refl _,fun _ _ _=>rfl,Or.inl rfl⟩
theorem FrO.trans{w w1 w2:World}{v v1 v2:Value}(h:FrO w w1 v v1)(k:FrO w1 w2 v1 v2):FrO w w2 v v2:=by
 refine⟨k.os.trans h.os,k.tape.trans h.tape,k.output.trans h.output,Nat.le_trans h.size k.size,fun j h1 h4=>?_,?_⟩
 ·refine(k.block j (Nat.lt_of_lt_of_le h1 h.size) (fun e=>?_)).trans (h.block j h1 h4)
  rcases h.own with ho | ho
  ·exact h4 (by rw[e,ho])
  ·have:=ho j e.symm;omega
 ·rcases k.own with ko | ko
  ·rcases h.own with ho | ho
   ·exact Or.inl (ko.trans ho)
   ·exact Or.inr (fun j e=>ho j (by rw[<-ko];exact e))
  ·exact Or.inr (fun j e=>Nat.le_trans h.size (ko j e))
theorem FrO.below{w w':World}{v v':Value}{BL t s n:Nat}{cs:List Value}(h:FrO w w' v v')(ho:w.ownsRow BL t s v n cs)(hz:BL<=w.heap.size):Below BL w w':=⟨h.os,h.tape,h.output,h.size,fun k hk=>h.block k oM (fun e=>by have:=(ho.lt k e.symm).1;omega)⟩
theorem FrO.push{w w8:World}{v v8:Value}{ob:Obj}(hg:(w.alloc ob).grownBy w8 v.ownBlock)(hat:v8.ownBlock=v.ownBlock\/v8.ownBlock=some (w.heap.size+1)):FrO w w8 v v8:=by
 have hsz:(w.alloc ob).heap.size=w.heap.size+1:=World.size_alloc _ _;have hgs:=hg.size;refine⟨hg.os,hg.tape,hg.output,oM,fun k h1 h4=>(hg.block k oM h4).trans (Below.heap_alloc _ _ _ h1),?_⟩;rcases hat with e | e
 ·exact Or.inl e
 ·exact Or.inr (fun k ek=>by rw[e]at ek;injection ek with ek;omega)
theorem ZhW{P:List Int}{R:Nat->Nat}{n:Nat}(hR:∀b c,c∈chP P b->R b<R c)(hRn:∀b,R b<=n){m b:Nat}(h:n<=R b+m):Xs P m b=b::(chP P b).flatMap (Xs P (m-1)):=by
 cases m with
 | zero =>
  have:chP P b=[]:=by
   cases e:chP P b with
   | nil=>rfl
   | cons c l =>
    have h1:=hR b c (by rw[e];exact List.mem_cons_self);have h2:=hRn c;omega
  rw[this];rfl
 | succ m=>rfl
theorem WL(ca:Option Addr)(n cc:Nat)(P:List Int)(L2 B2 BL:Nat)(hx:Hid (n=P.length))(hn:n<=1000)(hBL:B2<=BL)(R:Nat->Nat)(hR:Hid (∀b c,c∈chP P b->R b<R c))(hRn:Hid (∀b,R b<=n)) :
 ∀(m b:Nat)(v:Value)(L:List Nat)(w:World),Hid (XF w L2 B2 ca ((List.range n).map fun i:Nat=>Xh (chP P i)))->Hid (w.ownsRow BL 2 1 v L.length (Yo L))->BL<=w.heap.size->b<n->Hid (n<=R b+m)->L.length+(Xs P m b).length<=4000 ->
 Calls Tryz.prog 107 #[v,.slice ca n cc,.int .i64 b] w fun e w'=>∃v',e=.returned v'/\FrO w w' v v'/\w'.ownsRow BL 2 1 v' (L++Xs P m b).length (Yo (L++Xs P m b)):=by
 obtain⟨i0,hi0,hz0,hz1,hz2⟩:=X7 Tryz.info2';intro m
 induction m using Nat.strongRecOn with
 | _ m ih =>
  intro b v L w HC HO hz hb HU hL;have IH:=Xa ih;clear ih;obtain⟨bc,oc,rfl,hbc,a1,c1,hc1,hi1⟩:=HC.out b (by simpa using hb);simp only[List.getElem_map,List.getElem_range,XV]at hc1 hi1;have HE:=Xa (ZhW hR.out hRn.out HU.out);rw[HE.out]at hL |-;have HCM:Hid (∀c∈chP P b,c<n/\n<=R c+(m-1)/\0<m):=Xa (fun c hc=>by
   have h1:=hR.out b c hc;have h2:=hRn.out c;have h3:=(Um.1 hc).1;have:=HU.out;have:=hx.out;omega)
  have hql:(chP P b).length<=n:=Nat.le_trans ZhO (by have:=hx.out;omega);have HI1:=Xa hi1;generalize chP P b=cs at *;obtain⟨q,hq⟩:∃q,q=cs.length:=⟨_,rfl⟩;rw[<-hq]at hc1 hql;have HQ:=Xa hq;have hLL:L.length+1+(cs.flatMap (Xs P (m-1))).length<=4000:=by simp only[List.length_cons]at hL;omega
  clear hq hi1 HE hL
  go_enter Tryz.func107,Tryz.ntmps107
  go_wp2_with (at_builtin;refine wpList_append_own_at _ rfl _ _ 26 rfl BL 2 i0 (.int .i64 0) 1 8 Tryz.underlying26 hi0 hz0 hz1 hz2 rfl vZ _ _ _ rfl (HO.alloc _) ⟨w.heap.size,0,none⟩ 1 1 [.int .i64 (b:Int)] rfl rfl ?c1 ?c2 ?c3 ?c4 ?c5 ?_)
  case c1=>exact XY _ _ _
  case c2=>intro u hu;simp at hu;subst hu;rfl
  case c3=>unfold maxLen;omega
  case c4=>omega
  case c5=>simp;omega
  intro v8 w8 hown8 hg8 _ hat8;have HF8:Hid (FrO w w8 v v8):=Xa (FrO.push hg8 (by simpa using hat8));have HO8:Hid (w8.ownsRow BL 2 1 v8 (L++[b]).length (Yo (L++[b]))):=Xa (by rw[T7,List.length_append];exact hown8);have HB8:=Xa (HF8.below HO.out hz);have hz8:=HF8.size;have hc8:w8.cell? ⟨bc,oc+b,none⟩=some (.slice a1 q c1):=(XD HB8.out oM).trans hc1;have HC8:=Xa (HC.keep (HB8.mono hBL));have HI8:=Xa (HI1.keep (HB8.mono hBL));clear hown8 hg8 hat8 hc1 HI1
  go_wp2_with fail
  go_loopw [0,18] (fun vo u wr=>∃j:Nat,j<=q/\u=.int .i64 j/\Hid (FrO w8 wr v8 vo)/\Hid (wr.ownsRow BL 2 1 vo (L++[b]++(cs.take j).flatMap (Xs P (m-1))).length (Yo (L++[b]++(cs.take j).flatMap (Xs P (m-1)))))) (fun _ u _=>q-(intOf u).toNat)
  case atStart=>exact⟨0,Nat.zero_le _,rfl,Xa (FrO.refl _ _),Xa (by simpa using HO8.out)⟩
  case round =>
   obtain⟨j,hj,rfl,HFj,HOj⟩:=hrel;clear hc8;have HBj:=Xa (HFj.below HO8.out oM);by_cases hlt:j<q
   ·have hjl:j<cs.length:=by have:=HQ.out;omega
    obtain⟨b5,o5,rfl,hb5,e5⟩:=HI8.out j (by rw[XV];exact hjl);have hnj:(Xh cs)[j]'(by rw[XV];exact hjl)=((cs[j]:Nat):Int):=by simp[Xh]
    rw[hnj]at e5;have e5r:=(XD HBj.out oM).trans e5;obtain⟨hcn,hcr,hm⟩:=HCM.out cs[j] (List.getElem_mem hjl);have HTK:Hid ((cs.take (j+1)).flatMap (Xs P (m-1))=(cs.take j).flatMap (Xs P (m-1))++Xs P (m-1) cs[j]):=Xa (by rw[List.take_succ_eq_append_getElem hjl,List.flatMap_append];simp);have HLE:Hid ((L++[b]++(cs.take j).flatMap (Xs P (m-1))).length+(Xs P (m-1) cs[j]).length<=4000):=Xa (by
     have h1:(cs.flatMap (Xs P (m-1))).length=((cs.take (j+1)).flatMap (Xs P (m-1))).length+((cs.drop (j+1)).flatMap (Xs P (m-1))).length:=by
      rw[<-List.length_append,<-List.flatMap_append,List.take_append_drop]
     rw[HTK.out,List.length_append]at h1;simp only[List.length_append,List.length_cons,List.length_nil];omega)
    have HCC:=Xa (IH.out (m-1) oM cs[j] u0 _ wr (Xa (HC8.keep (HBj.mono hBL))) HOj (by have:=HFj.size;omega) hcn (Xa hcr) HLE.out);have HHH:=Xa (show(L++[b]++(cs.take j).flatMap (Xs P (m-1)))++Xs P (m-1) cs[j]=L++[b]++(cs.take (j+1)).flatMap (Xs P (m-1)) by rw[HTK.out];simp);rw[HHH.out]at HCC;clear e5 hnj HTK HLE HHH;generalize cs[j]=cj at *
    go_wp2_with fail
    refine HCC.mono ?_;rintro e w5 ⟨v5,rfl,hf5,ho5⟩;have HF5:=Xa (HFj.trans hf5);have HO5:=Xa ho5;clear hf5 ho5 HCC HOj
    go_wp2_with fail
    exact⟨⟨j+1,oM,gM,HF5,HO5⟩,by simp[intOf];omega⟩
   ·have hje:j=q:=oM
    have HTE:Hid (cs.take j=cs):=Xa (List.take_of_length_le (by have:=HQ.out;omega));rw[HTE.out]at HOj;clear HTE
    go_wp2_with fail
    go_ret
    refine⟨u0,rfl,HF8.trans HFj.out,?_⟩;have e:L++b::cs.flatMap (Xs P (m-1))=L++[b]++cs.flatMap (Xs P (m-1)):=sP;rw[e];exact HOj.out
theorem Zb2(P:List Int)(m b:Nat):b∈Xs P m b:=by
 cases m<;>simp[Xs]
theorem UV{tg:Nat->List Nat}{n:Nat}{P:List Int}(h:Y1 tg n P)(hn:∀x,Re tg x->x<n):∀(m b c x:Nat),n<=(YH tg n b).length+m->c∈Xs P m b->x∈chP P c->x∈Xs P m b
 | 0,b,c,x,hm,hc,hx=>by
  have:c=b:=by simpa [Xs]using hc
  subst this;have h1:=Wn h hn hx;have h2:=Zfh (tg:=tg) n x;omega
 | m+1,b,c,x,hm,hc,hx=>by
  rw[Xs,List.mem_cons]at hc;rw[Xs,List.mem_cons];rcases hc with rfl | hc
  ·exact Or.inr (List.mem_flatMap.2 ⟨x,hx,Zb2 P m x⟩)
  ·obtain⟨d,hd,hc⟩:=List.mem_flatMap.1 hc
   have h1:=Wn h hn hd;exact Or.inr (List.mem_flatMap.2 ⟨d,hd,UV h hn m d c x oM hc hx⟩)
theorem Zdu{tg:Nat->List Nat}{n:Nat}{P:List Int}(h:Y1 tg n P)(hn:∀x,Re tg x->x<n):∀(k x:Nat),(YH tg n x).length<=k->Re tg x->x∈Xs P n 0
 | k,x,hk,hx=>by
  by_cases h0:x=0
  ·subst h0;exact Zb2 P n 0
  ·obtain⟨c,e1,e2,e3,e4,_⟩:=ZgB h hn hx h0
   match k,hk with
   | 0,hk=>omega
   | k+1,hk=>exact UV h hn n 0 c x oM (Zdu h hn k c oM e3) (Um.2 ⟨by rw[h.len];exact hn x hx,e1⟩)
theorem Zfg{xs:List Xi}{P:List Int}(ho:Up xs)(hP:Y1 (Xx xs) xs.length P)(hr:ZI xs):(Xs P xs.length 0).Perm (List.range xs.length):=by
 rw[List.perm_iff_count];intro a;rw[(Zc3 hP xs.length 0 Re.root).count,List.nodup_range.count];have:a∈Xs P xs.length 0↔a∈List.range xs.length:=by
  rw[List.mem_range];constructor
  ·intro h
   exact ho.re a (ZH hP xs.length 0 a Re.root h).rb
  ·intro h
   exact Zdu hP ho.re _ a (Nat.le_refl _) (hr a h)
 by_cases e:a∈Xs P xs.length 0
 ·rw[if_pos e,if_pos (this.1 e)]
 ·rw[if_neg e,if_neg (fun h=>e (this.2 h))]
theorem T8{v:Int}{xs:List Xi}(h:verdP v xs=0):XQ ⟨v,xs⟩=true/\ZI xs:=by
 unfold verdP at h;by_cases h1:XQ ⟨v,xs⟩=false
 ·rw[if_pos h1]at h;omega
 ·rw[if_neg h1]at h
  by_cases h2:¬ZI xs
  ·rw[if_pos h2]at h;omega
  ·exact⟨by simpa using h1,Classical.not_not.1 h2⟩
def fsS(ss:List (Nat × List Nat)):List Int:=ss.map fun s=>(s.1:Int)
theorem ZiV{V:Nat}{xs:List Xi}(ho:ZZ V xs){x:Xi}(hx:x∈xs)(b:Nat):fsS (T9 xs V b x x.phis.length)=X8 x.phis:=by
 unfold fsS T9 X8;rw[List.take_length,List.map_map];apply List.map_congr_left;intro p hp;have:=(ho.phd x hx p hp).1;simp only[Function.comp];omega
theorem Zhq{V:Nat}{xs:List Xi}(ho:ZZ V xs){x:Xi}(hx:x∈xs)(b:Nat):∀k,k<=x.instrs.length->fsS (Kv xs V b x k)=XG (x.instrs.take k)
 | 0,_=>by simp[fsS,Kv,XG]
 | k+1,hk=>by
  have ih:=Zhq ho hx b k oM;have hk':k<x.instrs.length:=hk;have e:XG (x.instrs.take (k+1))=XG (x.instrs.take k)++writesI x.instrs[k]:=by
   rw[List.take_add_one,List.getElem?_eq_getElem hk'];unfold XG writesI;rw[List.filter_append,List.map_append,Option.toList_some,List.filter_cons,List.filter_nil];cases dB x.instrs[k].op<;>rfl
  rw[e,<-ih,Kv,List.getElem?_eq_getElem hk'];unfold fsS;rw[List.map_append,List.map_map];congr 1;have:∀v∈writesI x.instrs[k],((fun s:Nat × List Nat=>(s.1:Int)) ∘ fun v:Int=>(v.toNat,ptP xs x V b (k+1))) v=v:=fun v hv=>by
   have:=(ho.wri x hx _ (List.getElem_mem hk') v hv).1;simp only[Function.comp];omega
  rw[List.map_congr_left this,List.map_id''];intro a;rfl
theorem Zf9{V:Nat}{xs:List Xi}(ho:ZZ V xs){b:Nat}(hb:b<xs.length):fsS (skB xs V b)=ZK xs[b]:=by
 unfold skB;rw[List.getElem?_eq_getElem hb];have h1:=ZiV ho (List.getElem_mem hb) b;have h2:=Zhq ho (List.getElem_mem hb) b xs[b].instrs.length (Nat.le_refl _);rw[List.take_length]at h2;show fsS (T9 xs V b xs[b] xs[b].phis.length++Kv xs V b xs[b] xs[b].instrs.length)=_;unfold fsS at *;rw[List.map_append,h1,h2];rfl
theorem ZbD{V:Nat}{xs:List Xi}(ho:ZZ V xs):∀k,k<=xs.length->fsS (ZE xs V (List.range k))=blksDefs (xs.take k)
 | 0,_=>by simp[fsS,ZE,blksDefs]
 | k+1,hk=>by
  have ih:=ZbD ho k oM;have hk':k<xs.length:=hk;rw[List.range_succ,UC,List.take_add_one,List.getElem?_eq_getElem hk'];have h2:=Zf9 ho hk';unfold fsS at *;rw[List.map_append,ih,h2];unfold blksDefs;rw[List.flatMap_append,Option.toList_some,List.flatMap_cons,List.flatMap_nil,List.append_nil]
theorem Zfo(l:List Int)(v:Int):countEq l v=l.count v:=by
 unfold countEq;rw[List.count_eq_countP,List.countP_eq_length_filter]
theorem ZiP{V:Nat}{xs:List Xi}{P:List Int}(hv:XQ ⟨(V:Int),xs⟩=true)(hr:ZI xs)(hP:Y1 (Xx xs) xs.length P) :
 (fsS (ZE xs V (Xs P xs.length 0))).Nodup/\∀u:Nat,u<V->(u:Int)∈fsS (ZE xs V (Xs P xs.length 0)):=by
 have ho:=Yy hv;have hp:(fsS (ZE xs V (Xs P xs.length 0))).Perm (blksDefs xs):=by
  have h1:=ZbD ho xs.length (Nat.le_refl _);rw[List.take_length]at h1;rw[<-h1];unfold fsS ZE;exact(List.Perm.flatMap_right _ (Zfg ho.okf hP hr)).map _
 have hon:J3 ⟨(V:Int),xs⟩=true:=by
  unfold XQ at hv;simp only[Bool.and_eq_true]at hv;exact hv.2
 have hc:∀u:Nat,u<V->(blksDefs xs).count (u:Int)=1:=fun u hu=>by
  unfold J3 at hon;have:=List.all_eq_true.1 hon u (List.mem_range.2 (by simpa using hu));rw[beq_iff_eq,Zfo]at this;exact this
 have hl:∀d∈blksDefs xs,0<=d/\d<(V:Int):=fun d hd=>by
  obtain⟨x,hx,hd⟩:=List.mem_flatMap.1 hd;rcases List.mem_append.1 hd with hd | hd
  ·obtain⟨p,hp',rfl⟩:=List.mem_map.1 hd
   exact ho.phd x hx p hp'
  ·obtain⟨y,hy,rfl⟩:=List.mem_map.1 hd
   obtain⟨h1,h2⟩:=List.mem_filter.1 hy;exact ho.wri x hx y h1 y.dst (by unfold writesI;rw[h2];simp)
 constructor
 ·rw[List.nodup_iff_count]
  intro a;rw[hp.count_eq];by_cases h:a∈blksDefs xs
  ·obtain⟨h1,h2⟩:=hl a h
   have:=hc a.toNat oM;rw[Int.toNat_of_nonneg h1]at this;omega
  ·rw[List.count_eq_zero_of_not_mem h];omega
 ·intro u hu
  rw[hp.mem_iff];apply List.count_pos_iff.1;rw[hc u hu];decide
structure Zhi(V:Nat)(ss:List (Nat × List Nat)):Prop where
 lt:∀s∈ss,s.1<V
 nd:∀pre s post,ss=pre++s::post->∀t∈pre,t.1≠s.1
 all:∀u,u<V->∃s∈ss,s.1=u
theorem ZhT{V:Nat}{xs:List Xi}{P:List Int}(hv:XQ ⟨(V:Int),xs⟩=true)(hr:ZI xs)(hP:Y1 (Xx xs) xs.length P):Zhi V (ZE xs V (Xs P xs.length 0)):=by
 obtain⟨h1,h2⟩:=ZiP hv hr hP;have ho:=Yy hv;refine⟨fun s hs=>?_,fun pre s post e t ht=>?_,fun u hu=>?_⟩
 ·obtain⟨b,_,hs⟩:=List.mem_flatMap.1 hs
  unfold skB at hs;cases hb:xs[b]? with
  | none=>rw[hb]at hs;cases hs
  | some x =>
   have hx:x∈xs:=List.mem_of_getElem? hb;have hb':b<xs.length:=(List.getElem?_eq_some_iff.1 hb).1;have hs':((s.1:Nat):Int)∈ZK x:=by
    have h3:=Zf9 ho hb';rw[(List.getElem?_eq_some_iff.1 hb).2]at h3;rw[<-h3];unfold skB fsS;exact List.mem_map.2 ⟨s,hs,rfl⟩
   rcases List.mem_append.1 hs' with hd | hd
   ·obtain⟨p,hp',e⟩:=List.mem_map.1 hd
    have:=ho.phd x hx p hp';have e:p.dst=_:=e;omega
   ·obtain⟨y,hy,e⟩:=List.mem_map.1 hd
    obtain⟨h1,h2⟩:=List.mem_filter.1 hy;have:=ho.wri x hx y h1 y.dst (by unfold writesI;rw[h2];simp);have e:y.dst=_:=e;omega
 ·rw[e]at h1
  unfold fsS at h1;rw[List.map_append,List.map_cons]at h1;have:=(List.nodup_append.1 h1).2.2 _ (List.mem_map.2 ⟨t,ht,rfl⟩) _ List.mem_cons_self;exact fun e=>this (by rw[e])
 ·obtain⟨s,hs,e⟩:=List.mem_map.1 (h2 u hu)
  exact⟨s,hs,oM⟩
theorem ZaA{v:Nat}:∀(ss:List (Nat × List Nat))(C:Nat->Int),(∀s∈ss,s.1≠v)->ZF C ss v=C v
 | [],_,_=>rfl
 | s::ss,C,h=>by
  have ih:=ZaA ss (ckS C s) (fun t ht=>h t (List.mem_cons_of_mem _ ht));show ZF (ckS C s) ss v=_;rw[ih];unfold ckS;rw[if_neg (fun e=>h s List.mem_cons_self e.symm)]
theorem Uu{v:Nat}:∀(ss:List (Nat × List Nat))(C:Nat->Int),(0<=C v\/∃s∈ss,s.1=v)->0<=ZF C ss v
 | [],_,h=>by
  rcases h with h | ⟨s,h,_⟩
  ·exact h
  ·cases h
 | s::ss,C,h=>by
  show 0<=ZF (ckS C s) ss v;refine Uu ss (ckS C s) ?_;by_cases e:v=s.1
  ·left
   unfold ckS;rw[if_pos e];omega
  ·rcases h with h | ⟨t,ht,e2⟩
   ·left
    unfold ckS;rw[if_neg e];exact h
   ·rcases List.mem_cons.1 ht with rfl | ht
    ·exact absurd e2.symm e
    ·exact Or.inr ⟨t,ht,e2⟩
theorem Vj(C:Nat->Int):∀V,0<=ckN C V
 | 0=>by simp[ckN]
 | V+1=>by have:=Vj C V;rw[ckN];omega
theorem ZcT{C:Nat->Int}{v:Nat}{x:Int}:∀V,V<=v->ckN (fun u=>if u=v then x else C u) V=ckN C V
 | 0,_=>rfl
 | V+1,h=>by
  rw[ckN,ckN,ZcT V oM,if_neg oM]
theorem ZcV{C:Nat->Int}{v:Nat}{x:Int}(hC:C v=-1):∀V,v<V->ckN (fun u=>if u=v then x else C u) V=max (ckN C V) (x+1)
 | V+1,h=>by
  rw[ckN,ckN];by_cases e:V=v
  ·subst e
   have:=Vj C V;rw[if_pos rfl,ZcT V (Nat.le_refl _),hC];omega
  ·rw[if_neg e,ZcV hC V oM]
   omega
theorem VS:∀V,ckN (fun _=>-1) V=0
 | 0=>rfl
 | V+1=>by rw[ckN,VS V];decide
def noC(C:Nat->Int)(l:List Nat)(c j:Nat):Prop:=∀i (h:i<l.length),i<j->C l[i]≠(c:Int)
theorem Ze7(C:Nat->Int)(l:List Nat)(c:Nat):noC C l c 0:=fun i _ h=>absurd h oM
def Zi9(C:Nat->Int)(l:List Nat)(c:Nat):Prop:=∀c',c' < c->∃u∈l,C u=(c':Int)
def flC(C:Nat->Int)(l:List Nat)(c j:Nat)(b:Bool):Prop:=(b=true->noC C l c j)/\(b=false->∃u∈l,C u=(c:Int))
theorem KY(ac:Option Addr)(nc cc:Nat)(C:Nat->Int)(a:Option Addr)(n c:Nat)(l:List Nat)(w:World)(hc:Hid (∀u,u<nc->∃b o,ac=some ⟨b,o,none⟩/\w.cell? ⟨b,o+u,none⟩=some (.int .i64 (C u))))(ha:Hid (∀i (h:i<l.length),∃b o,a=some ⟨b,o,none⟩/\w.cell? ⟨b,o+i,none⟩=some (.int .i64 (l[i]:Int))))(hx:Hid (n=l.length))(hn:n<=1048576)(hl:Hid (∀u∈l,u<nc)) :
 Calls Tryz.prog 22 #[.slice ac nc cc,.slice a n c] w fun e w'=>e=.returned (.int .i64 (smN C l:Int))/\w'=w:=by
 go_enter Tryz.func22,Tryz.ntmps22
 go_wp2_with fail
 go_loop [5] (fun i=>∃q:Nat,q<=n/\i=.int .i64 q/\Hid (Zi9 C l q)) (fun i=>n-(intOf i).toNat)
 case atStart=>exact⟨0,Nat.zero_le _,rfl,Xa (fun c' h=>absurd h oM)⟩
 case round =>
  obtain⟨q,hq,rfl,HQ⟩:=hrel;by_cases hlt:q<n
  ·go_wp2_with fail
   go_loop [6,7] (fun b i=>∃(bb:Bool)(j:Nat),b=.bool bb/\j<=n/\i=.int .i64 j/\Hid (flC C l q j bb)) (fun _ i=>n-(intOf i).toNat)
   case atStart=>exact⟨true,0,rfl,Nat.zero_le _,rfl,Xa ⟨fun _=>Ze7 _ _ _,fun h=>by cases h⟩⟩
   case round =>
    obtain⟨bb,j,rfl,hj,rfl,HF⟩:=hrel;by_cases hlj:j<n
    ·have hj':j<l.length:=by rw[<-hx.out];exact hlj
     obtain⟨b,o,rfl,e0⟩:=ha.out j hj';have hmem:=List.getElem_mem hj';have hu:=hl.out _ hmem;obtain⟨b2,o2,rfl,e1⟩:=hc.out _ hu;have HY:Hid (C l[j]=(q:Int)->flC C l q (j+1) false):=Xa (fun e=>⟨fun h=>(by cases h),fun _=>⟨_,hmem,e⟩⟩);have HN:Hid (C l[j]≠(q:Int)->flC C l q (j+1) bb):=Xa (fun e=>⟨fun h i hi h2=>by
      by_cases e2:i=j
      ·subst e2;exact e
      ·exact HF.1 h i hi oM,HF.2⟩)
     generalize l[j]=u at *;generalize C u=y at *;have hji:(j:Int)<(n:Int):=oM;have hui:(u:Int)<(nc:Int):=oM;clear hmem HF;by_cases he:y=(q:Int)
     ·subst he
      go_wp2_with fail
      exact⟨⟨false,j+1,rfl,oM,gM,Xa (HY.out rfl)⟩,by simp[intOf];omega⟩
     ·have he1:(y==(q:Int))=false:=by rw[beq_eq_false_iff_ne];exact he
      go_wp2_with fail
      exact⟨⟨bb,j+1,rfl,oM,gM,Xa (HN.out he)⟩,by simp[intOf];omega⟩
    ·have hjn:j=n:=oM
     subst hjn;cases bb with
     | true =>
      have HS:Hid (smN C l=q):=Xa (Zcl ⟨fun u hu e=>by
       obtain⟨i,hi,rfl⟩:=List.getElem_of_mem hu;exact HF.1 rfl i hi (by rw[hx.out];exact hi) e,HQ.out⟩)
      go_wp2_with fail
      go_ret
      exact⟨by rw[HS.out];rfl,rfl⟩
     | false =>
      have HS:Hid (Zi9 C l (q+1)):=Xa (fun c' h=>by
       by_cases e:c'=q
       ·subst e;exact HF.2 rfl
       ·exact HQ.out c' oM)
      go_wp2_with fail
      exact⟨⟨q+1,oM,gM,HS⟩,by simp[intOf];omega⟩
  ·have hqn:q=n:=oM
   subst hqn;have HS:Hid (smN C l=q):=Xa (by
    have h:=Zdl (C:=C) (l:=l) (by rw[<-hx.out];exact HQ.out);rw[hx.out];exact Zcl h)
   go_wp2_with fail
   go_ret
   exact⟨by rw[HS.out];rfl,rfl⟩
section
structure LvS(w3 wr:World)(G:Bool->Nat)(n:Nat)(P:Bool->Nat->List Int):Prop where
 os:wr.os=w3.os
 tape:wr.tape=w3.tape
 output:wr.output=w3.output
 size:w3.heap.size<=wr.heap.size
 fr:∀q,q<w3.heap.size->q≠G false->q≠G true->wr.heap[q]?=w3.heap[q]?
 db:∃U,DbS wr w3.heap.size G n P U
section
variable {w3 wr wr' w8 : World} {G : Bool -> Nat} {n : Nat} {P P' : Bool -> Nat -> List Int}
theorem LvS.below(h:LvS w3 wr G n P)(k:Below wr.heap.size wr wr'):LvS w3 wr' G n P:=by
 obtain⟨U,hU⟩:=h.db;have:=h.size;exact⟨k.os.trans h.os,k.tape.trans h.tape,k.output.trans h.output,Nat.le_trans h.size k.size,fun q h1 h2 h3=>(k.block q oM).trans (h.fr q h1 h2 h3),U,hU.below k⟩
theorem LvS.congr(h:LvS w3 wr G n P)(e:∀s i,i<n->P s i=P' s i):LvS w3 wr G n P':=by
 obtain⟨U,hU⟩:=h.db;exact⟨h.os,h.tape,h.output,h.size,h.fr,U,hU.congr e⟩
theorem LvS.cell(h:LvS w3 wr G n P){b o:Nat}{v:Value}(h1:b≠G false)(h2:b≠G true)(hc:w3.cell? ⟨b,o,none⟩=some v):wr.cell? ⟨b,o,none⟩=some v:=(Xc (h.fr b (World.block_lt_of_cell? w3 _ hc) h1 h2)).trans hc
theorem LvS.push{U:Bool->Nat->Value}{s:Bool}{t:Nat}{ob:Obj}{x:Int}{v':Value}(h:LvS w3 wr G n P)(hU:DbS wr w3.heap.size G n P U)(ht:t<n)(hg:(wr.drew.alloc ob).grownBy w8 (U s t).ownBlock)(ho:w8.ownsRow w3.heap.size 2 1 v' ((P s t).length+1) ((P s t).map (Value.int .i64)++[.int .i64 x]))(hat:v'.ownBlock=(U s t).ownBlock\/v'.ownBlock=some (wr.heap.size+1)) :
 LvS w3 (w8.setCell ⟨G s,t,none⟩ v') G n (fun s' i=>if (s',i)=(s,t)then P s t++[x]else P s' i)/\w8.cell? ⟨G s,t,none⟩=some (U s t)/\w8.frozen? ⟨G s,t,none⟩=false/\(∀q,q<wr.heap.size->q≠G s->(U s t).ownBlock≠some q->w8.heap[q]?=wr.heap[q]?/\(w8.setCell ⟨G s,t,none⟩ v').heap[q]?=wr.heap[q]?)/\wr.heap.size<=(w8.setCell ⟨G s,t,none⟩ v').heap.size:=by
 have hsz:=h.size;have hgs:=hg.size;have has:(wr.drew.alloc ob).heap.size=wr.heap.size+1:=World.size_alloc _ _;have hal:∀k,k<wr.heap.size->(wr.drew.alloc ob).heap[k]?=wr.heap[k]?:=fun k hk=>Below.heap_alloc wr.drew _ _ hk
 have hU':DbS (wr.drew.alloc ob) w3.heap.size G n P U:=hU.below ⟨rfl,rfl,rfl,oM,hal⟩;have hst:=hU'.step ht x v' hg ho (by rw[has];exact hat);have hnu:∀k,k<w3.heap.size->(U s t).ownBlock≠some k:=fun k hk e=>by have:=((hU.own s t ht).lt k e).1;omega
 have hbk:∀k,k<wr.heap.size->(U s t).ownBlock≠some k->w8.heap[k]?=wr.heap[k]?:=fun k h1 h3=>(hg.block k oM (fun e=>h3 e.symm)).trans (hal k h1)
 have hG:=hU.lt s;have hGb:=hbk (G s) oM (hnu _ hG);refine⟨⟨hg.os.trans h.os,hg.tape.trans h.tape,hg.output.trans h.output,by rw[Xd];omega,fun q h1 h2 h3=>?_,_,hst⟩,(Xc hGb).trans ((hU.row s).cell ht),(World.frozen?_of_block hGb).trans ((hU.row s).frozen t),fun q h1 h2 h3=>⟨hbk q h1 h3,(Below.heap_setCell _ _ _ _ h2).trans (hbk q h1 h3)⟩,by rw[Xd];omega⟩;refine(Below.heap_setCell _ _ _ _ ?_).trans ((hbk q oM (hnu q h1)).trans (h.fr q h1 h2 h3));cases s
 ·exact h2
 ·exact h3
end
end
section
def Za(w:World)(G n:Nat)(P:Nat->List Int)(U:Nat->Value):Prop :=
 w.rowIs G 62 n U/\(∀i,i<n->w.ownsRow (G+1) 2 1 (U i) (P i).length ((P i).map (Value.int .i64)))/\(∀i j,i<n->j<n->i≠j->(U i).ownBlock=none\/(U i).ownBlock≠(U j).ownBlock)
theorem Za.alloc{w:World}{G n:Nat}{P:Nat->List Int}{U:Nat->Value}(h:Za w G n P U)(o:Obj):Za (w.alloc o) G n P U:=⟨h.1.alloc o,fun i hi=>(h.2.1 i hi).alloc o,h.2.2⟩
theorem Za.below{w w':World}{G n:Nat}{P:Nat->List Int}{U:Nat->Value}(h:Za w G n P U)(k:Below w.heap.size w w'):Za w' G n P U:=by
 refine⟨h.1.of_block (k.block _ h.1.lt),fun i hi=>?_,h.2.2⟩;refine(h.2.1 i hi).kept (row:=none) ⟨k.os,k.tape,k.output,k.size,fun b hb _=>k.block b hb⟩ ?_;cases (U i).ownBlock<;>simp
theorem Za.congr{w:World}{G n:Nat}{P P':Nat->List Int}{U:Nat->Value}(h:Za w G n P U)(e:∀i,i<n->P i=P' i):Za w G n P' U :=
 ⟨h.1,fun i hi=>by rw[<-e i hi];exact h.2.1 i hi,h.2.2⟩
theorem Za.step{w w1:World}{G n:Nat}{P:Nat->List Int}{U:Nat->Value}(h:Za w G n P U){t:Nat}(ht:t<n)(x:Int)(v':Value)(hg:w.grownBy w1 (U t).ownBlock)
 (ho:w1.ownsRow (G+1) 2 1 v' ((P t).length+1) ((P t).map (Value.int .i64)++[.int .i64 x])) (hat:v'.ownBlock=(U t).ownBlock\/v'.ownBlock=some w.heap.size) :
 Za (w1.setCell ⟨G,t,none⟩ v') G n (fun i=>if i=t then P t++[x]else P i) (fun i=>if i=t then v' else U i):=by
 have hr:w1.rowIs G 62 n U:=h.1.of_block (hg.block _ h.1.lt (fun e=>by have:=((h.2.1 t ht).lt _ e.symm).1;omega));refine⟨hr.set t v',fun i hi=>?_,fun i j hi hj hij=>?_⟩
 ·refine ownsRow_setCell_below ?_ (by dsimp only;omega) _
  by_cases e:i=t
  ·subst e
   simp only[if_true,List.length_append,List.length_cons,List.length_nil,List.map_append,List.map_cons,List.map_nil];exact ho
  ·simp only[e,if_false]
   exact(h.2.1 i hi).kept hg (h.2.2 i t hi ht e)
 ·have fresh:∀m,m<n->(U m).ownBlock=none\/(U m).ownBlock≠some w.heap.size:=fun m hm=>by
   by_cases e:(U m).ownBlock=some w.heap.size
   ·have:=((h.2.1 m hm).lt _ e).2;omega
   ·exact Or.inr e
  by_cases e1:i=t
  ·subst e1
   have e2:¬j=i:=fun e=>hij e.symm
   simp only[if_true,e2,if_false];rcases hat with q | q
   ·rw[q];exact h.2.2 i j hi hj hij
   ·right
    rw[q];intro hh;rcases fresh j hj with f | f
    ·rw[f]at hh;cases hh
    ·exact f hh.symm
  ·simp only[e1,if_false]
   by_cases e2:j=t
   ·subst e2
    simp only[if_true];rcases hat with q | q
    ·rw[q];exact h.2.2 i j hi hj hij
    ·rw[q];exact fresh i hi
   ·simp only[e2,if_false]
    exact h.2.2 i j hi hj hij
theorem Za.ints{w:World}{G n:Nat}{P:Nat->List Int}{U:Nat->Value}(h:Za w G n P U):XF w G w.heap.size (some ⟨G,0,none⟩) ((List.range n).map P):=fun i hi=>by
 simp only[List.length_map,List.length_range]at hi;obtain⟨a,c,hv,ha⟩:=Xj (h.2.1 i hi);refine⟨G,0,rfl,⟨Nat.le_refl _,h.1.lt⟩,a,c,?_,?_⟩
 ·simp only[List.getElem_map,List.getElem_range,Nat.zero_add]
  rw[h.1.cell hi,hv]
 ·simp only[List.getElem_map,List.getElem_range]
  exact ha.mono oM (Nat.le_refl _)
theorem Za.born(w:World)(n:Nat):Za (w.alloc (.cells (madeCells #[.slice none 0 0] n) 62)) w.heap.size n (fun _=>[]) (fun _=>.slice none 0 0) :=
 ⟨World.rowIs_made _ _ _ _,fun _ _=>World.ownsRow_nil _ _ _ _,fun _ _ _ _ _=>Or.inl rfl⟩
variable {tg : Nat -> List Nat}
open Classical in
noncomputable def KL(tg:Nat->List Nat)(k b:Nat):List Int:=Xh ((List.range k).filter fun a=>decide (JF tg a b))
open Classical in
theorem VM(k b:Nat):KL tg (k+1) b=KL tg k b++(if JF tg k b then [(k:Int)]else []):=by
 unfold KL;rw[List.range_succ,List.filter_append,List.filter_cons,List.filter_nil];by_cases h:JF tg k b
 ·rw[if_pos (by simpa using h),if_pos h];simp[Xh]
 ·rw[if_neg (by simpa using h),if_neg h];simp[Xh]
theorem Zf5(k b:Nat):(KL tg k b).length<=k:=by
 unfold KL;rw[XV];exact Nat.le_trans (List.length_filter_le _ _) sP
theorem ZdY{k:Nat}(h:¬Re tg k)(b:Nat):KL tg (k+1) b=KL tg k b:=by
 rw[VM,if_neg (fun d=>h d.ra),List.append_nil]
noncomputable def YO(tg:Nat->List Nat)(F Fa:List Nat)(k i b:Nat):List Int:=KL tg k b++(if b∈F.take i/\b ∉ Fa then [(k:Int)]else [])
theorem Zck(F Fa:List Nat)(k b:Nat):YO tg F Fa k 0 b=KL tg k b:=by
 unfold YO;rw[if_neg sP,List.append_nil]
theorem Zen(F Fa:List Nat)(k i b:Nat):(YO tg F Fa k i b).length<=k+1:=by
 unfold YO;have:=Zf5 (tg:=tg) k b;rw[List.length_append];split<;>simp<;>omega
theorem ZY{F:List Nat}{i b:Nat}(hi:i<F.length):b∈F.take (i+1)↔b∈F.take i\/b=F[i]:=by
 rw[List.take_succ_eq_append_getElem hi,List.mem_append,List.mem_singleton]
theorem Zfw{F Fa:List Nat}{k i:Nat}(hi:i<F.length)(h:F[i]∈Fa)(b:Nat):YO tg F Fa k (i+1) b=YO tg F Fa k i b:=by
 unfold YO;by_cases e:b=F[i]
 ·rw[if_neg (fun q=>q.2 (by rw[e];exact h)),if_neg (fun q=>q.2 (by rw[e];exact h))]
 ·by_cases q:b∈F.take i/\b ∉ Fa
  ·rw[if_pos ⟨(ZY hi).2 (Or.inl q.1),q.2⟩,if_pos q]
  ·rw[if_neg (fun r=>q ⟨((ZY hi).1 r.1).resolve_right e,r.2⟩),if_neg q]
theorem Zd2{F Fa:List Nat}{k i:Nat}(hn:F.Nodup)(hi:i<F.length)(h:F[i] ∉ Fa)(b:Nat):YO tg F Fa k (i+1) b=if b=F[i]then YO tg F Fa k i F[i]++[(k:Int)]else YO tg F Fa k i b:=by
 have hnt:F[i] ∉ F.take i:=fun q=>by
  have e:F=F.take i++F.drop i:=(List.take_append_drop i F).symm;have hd:F[i]∈F.drop i:=by rw[List.drop_eq_getElem_cons hi];exact List.mem_cons_self
  rw[e,List.nodup_append]at hn;exact hn.2.2 _ q _ hd rfl
 by_cases e:b=F[i]
 ·rw[if_pos e,e]
  unfold YO;rw[if_pos ⟨(ZY hi).2 (Or.inr rfl),h⟩,if_neg (fun q=>hnt q.1),List.append_nil]
 ·rw[if_neg e]
  unfold YO;by_cases q:b∈F.take i/\b ∉ Fa
  ·rw[if_pos ⟨(ZY hi).2 (Or.inl q.1),q.2⟩,if_pos q]
  ·rw[if_neg (fun r=>q ⟨((ZY hi).1 r.1).resolve_right e,r.2⟩),if_neg q]
theorem Zcb{F Fa:List Nat}{k:Nat}(hF:∀x,x∈F↔Re tg x)(hFa:∀x,x∈Fa↔Av tg k x)(hk:Re tg k){i:Nat}(hi:F.length<=i)(b:Nat):YO tg F Fa k i b=KL tg (k+1) b:=by
 rw[VM];unfold YO;rw[List.take_of_length_le hi];by_cases h:JF tg k b
 ·rw[if_pos ⟨(hF b).2 h.rb,fun q=>h.no ((hFa b).1 q)⟩,if_pos h]
 ·rw[if_neg (fun q=>h ⟨hk,(hF b).1 q.1,fun r=>q.2 ((hFa b).2 r)⟩),if_neg h]
end
end Go.Proofs.YthgikffcdgpgiaaGreatDoor
