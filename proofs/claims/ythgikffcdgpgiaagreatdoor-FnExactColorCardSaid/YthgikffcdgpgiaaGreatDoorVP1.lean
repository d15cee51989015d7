import Derived.Test.YthgikffcdgpgiaaGreatDoorAL2
namespace Go.Proofs.YthgikffcdgpgiaaGreatDoor
set_option maxHeartbeats 2000000
set_option maxRecDepth 100000
open Go.RowKit
section
structure StI(xs:List Xi)(v:Nat)(td:List Nat)(i:Nat):Prop where
 nd:td.Nodup
 op:∀x∈td,Opn xs v x
 z:0∈td
 dn:∀j (h:j<td.length),j<i->Yt xs td[j] v=true\/(barB xs td[j] v≠1/\(barB xs td[j] v=0->∀t∈Xx xs td[j],t∈td))
section
variable {xs : List Xi} {v : Nat} {td : List Nat} {i : Nat}
theorem ZdP:StI xs v [0] 0:=⟨sP,fun x hx=>by rw[List.mem_singleton.1 hx];exact Opn.root,sP,fun j _ h=>absurd h oM⟩
theorem StI.go(h:StI xs v td i)(hi:i<td.length)(hd:Yt xs td[i] v=true\/(barB xs td[i] v≠1/\(barB xs td[i] v=0->∀t∈Xx xs td[i],t∈td))):StI xs v td (i+1) :=
 ⟨h.nd,h.op,h.z,fun j hj hji=>if e:j=i then by subst e;exact hd else h.dn j hj oM⟩
theorem StI.push(h:StI xs v td i)(hi:i<td.length)(hp:Yt xs td[i] v=false)(hb:barB xs td[i] v=0){t:Nat}(ht:t∈Xx xs td[i])(hn:t ∉ td):StI xs v (td++[t]) i:=by
 refine⟨?_,fun x hx=>?_,by simp[h.z],fun j hj hji=>?_⟩
 ·rw[List.nodup_append]
  exact⟨h.nd,sP,fun a ha b hb'=>by rw[List.mem_singleton.1 hb'];exact fun e=>hn (by rw[<-e];exact ha)⟩
 ·rcases List.mem_append.1 hx with hx | hx
  ·exact h.op x hx
  ·rw[List.mem_singleton.1 hx]
   exact Opn.step (h.op _ (List.getElem_mem hi)) hp hb ht
 ·have hj':j<td.length:=oM
  rw[List.getElem_append_left hj'];rcases h.dn j hj' hji with q | ⟨q1,q2⟩
  ·exact Or.inl q
  ·exact Or.inr ⟨q1,fun e u hu=>List.mem_append_left _ (q2 e u hu)⟩
theorem StI.none(h:StI xs v td i)(hi:td.length<=i):¬Bad xs v:=by
 rintro⟨b,hop,h1,h2⟩;have hin:∀b,Opn xs v b->b∈td:=fun b hop=>by
  induction hop with
  | root=>exact h.z
  | step _ q1 q2 q3 ih =>
   obtain⟨j,hj,rfl⟩:=List.getElem_of_mem ih;rcases h.dn j hj oM with q | q
   ·rw[q]at q1;cases q1
   ·exact q.2 q2 _ q3
 obtain⟨j,hj,rfl⟩:=List.getElem_of_mem (hin b hop);rcases h.dn j hj oM with q | q
 ·rw[q]at h1;cases h1
 ·exact q.1 h2
theorem StI.hit(h:StI xs v td i)(hi:i<td.length)(hp:Yt xs td[i] v=false)(hb:barB xs td[i] v=1):Bad xs v:=⟨_,h.op _ (List.getElem_mem hi),hp,hb⟩
theorem StI.lt(h:StI xs v td i)(ho:Up xs):∀x∈td,x<xs.length:=fun x hx=>(h.op x hx).lt ho
end
end
section
structure JD(W1:World)(G:Nat)(wr:World)(u:Value)(l:List Int):Prop where
 os:wr.os=W1.os
 tape:wr.tape=W1.tape
 output:wr.output=W1.output
 size:W1.heap.size<=wr.heap.size
 fr:∀q,q<W1.heap.size->q≠G->wr.heap[q]?=W1.heap[q]?
 own:wr.ownsRow G 2 1 u l.length (l.map (Value.int .i64))
 here:∀g,u.ownBlock=some g->g=G\/W1.heap.size<=g
section
variable {W1 wr w2 : World} {G : Nat} {u u' : Value} {l : List Int}
theorem JD.start(h:W1.ownsRow G 2 1 u 0 [])(hu:∀g,u.ownBlock=some g->g=G):JD W1 G W1 u []:=⟨rfl,rfl,rfl,Nat.le_refl _,fun _ _ _=>rfl,h,fun g e=>Or.inl (hu g e)⟩
theorem JD.push{x:Int}(h:JD W1 G wr u l)(hg:wr.grownBy w2 u.ownBlock)(ho:w2.ownsRow G 2 1 u' (l.length+1) (l.map (Value.int .i64)++[.int .i64 x]))(hat:u'.ownBlock=u.ownBlock\/u'.ownBlock=some wr.heap.size):JD W1 G w2 u' (l++[x]):=by
 have hz:=h.size;refine⟨hg.os.trans h.os,hg.tape.trans h.tape,hg.output.trans h.output,Nat.le_trans hz hg.size,fun q h1 h2=>(hg.block q oM (fun e=>?_)).trans (h.fr q h1 h2),?_,fun g e=>?_⟩
 ·rcases h.here q e.symm with k | k
  ·exact h2 k
  ·omega
 ·rw[Ys,List.length_append]
  exact ho
 ·rcases hat with k | k
  ·exact h.here g (by rw[<-k];exact e)
  ·rw[k]at e
   injection e with e;exact Or.inr oM
theorem JD.below(h:JD W1 G wr u l)(k:Below wr.heap.size wr w2):JD W1 G w2 u l :=
 ⟨k.os.trans h.os,k.tape.trans h.tape,k.output.trans h.output,Nat.le_trans h.size k.size,fun q h1 h2=>(k.block q (Nat.lt_of_lt_of_le h1 h.size)).trans (h.fr q h1 h2),Yr h.own (fun g e=>k.block g (h.own.lt g e).2),h.here⟩
theorem JD.alloc(h:JD W1 G wr u l)(o:Obj):JD W1 G (wr.alloc o) u l:=h.below (Xb (Below.refl _ _) o)
theorem JD.cell(h:JD W1 G wr u l){b o:Nat}{v:Value}(hb:b≠G)(hc:W1.cell? ⟨b,o,none⟩=some v):wr.cell? ⟨b,o,none⟩=some v:=(Xc (h.fr b (World.block_lt_of_cell? W1 _ hc) hb)).trans hc
theorem JD.ints(h:JD W1 G wr u l){L B:Nat}{a:Option Addr}{xs:List Int}(hB:B<=W1.heap.size)(hG:¬(L<=G/\G<B))(hi:Xg W1 L B a xs):Xg wr L B a xs:=hi.keepS (fun k h1 h2=>h.fr k oM (fun e=>hG oM))
end
end
theorem VD(t:ZX)(w:World) :
 Calls Tryz.prog 80 #[.agg #[.int .i64 t.kind,.int .i64 t.a,.int .i64 t.to,.int .i64 t.els]] w fun e w'=>∃a c,e=.returned (.slice a (rdT t).length c)/\Below w.heap.size w w'/\Xg w' w.heap.size w'.heap.size a (rdT t):=by
 obtain⟨kind,ta,tg,els⟩:=t;by_cases h1:kind=1
 ·subst h1
  go_enter Tryz.func80,Tryz.ntmps80
  go_wp2
  go_ret
  exact⟨_,_,rfl,Xb (Xb (Below.refl _ _) _) _,fun i hi=>absurd hi (by simp[rdT])⟩
 ·have e1:(kind==1)=false:=by simp[h1]
  have hn:rdT ⟨kind,ta,tg,els⟩=[ta]:=by simp[rdT,h1]
  rw[hn];clear h1 hn
  go_enter Tryz.func80,Tryz.ntmps80
  go_wp2
  go_ret
  refine⟨_,_,rfl,Xb (Xb (Below.refl _ _) _) _,fun i hi=>?_⟩
  match i,hi with
  | 0,_=>exact⟨_,_,rfl,⟨sP,sP⟩,sP⟩
theorem TV(y:YK)(w:World) :
 Calls Tryz.prog 82 #[ZdU y] w fun e w'=>∃a c,e=.returned (.slice a (rdI y).length c)/\Below w.heap.size w w'/\Xg w' w.heap.size w'.heap.size a (rdI y):=by
 obtain⟨i0,hi0,hz0,hz1,hz2⟩:=info_parts Tryz.info2';obtain⟨op,dst,ya,yb,imm⟩:=y;have HA:=Xa (fun W=>Zh3 op W);have HB:=Xa (fun W=>Zh2 op W);have HR:Hid (rdI ⟨op,dst,ya,yb,imm⟩=(if aB op then [ya]else [])++(if bB op then [yb]else [])):=Xa rfl;generalize rdI ⟨op,dst,ya,yb,imm⟩=rs at *;generalize aB op=uA at *;generalize bB op=uB at *;unfold ZdU
 go_enter Tryz.func82,Tryz.ntmps82
 go_wp2_with fail
 refine(HA.out _).mono ?_;rintro e w1 ⟨rfl,hw1⟩;rw[hw1];clear hw1 w1;have HW:Hid (Below w.heap.size w ((w.alloc (.cells #[.int .i64 op,.int .i64 dst,.int .i64 ya,.int .i64 yb,.int .i64 imm] 67)).alloc (.cells #[] 2))):=Xa (Xb (Xb (Below.refl _ _) _) _);have HO:=Xa (Jd w (.cells #[.int .i64 op,.int .i64 dst,.int .i64 ya,.int .i64 yb,.int .i64 imm] 67));have hz:w.heap.size<((w.alloc (.cells #[.int .i64 op,.int .i64 dst,.int .i64 ya,.int .i64 yb,.int .i64 imm] 67)).alloc (.cells #[] 2)).heap.size:=by simp;omega
 have hc:∀q v,#[Value.int .i64 op,.int .i64 dst,.int .i64 ya,.int .i64 yb,.int .i64 imm][q]?=some v->((w.alloc (.cells #[.int .i64 op,.int .i64 dst,.int .i64 ya,.int .i64 yb,.int .i64 imm] 67)).alloc (.cells #[] 2)).cell? ⟨w.heap.size,q,none⟩=some v:=fun q v h=>by
  rw[World.cell?_alloc_lt _ _ _ sP];rw[World.cell?_alloc_new];exact h
 generalize (w.alloc (.cells #[.int .i64 op,.int .i64 dst,.int .i64 ya,.int .i64 yb,.int .i64 imm] 67)).alloc (.cells #[] 2)=W at *;have c0:=hc 0 _ rfl;have c2:=hc 2 _ rfl;have c3:=hc 3 _ rfl;clear hc;have HSZ:Hid (w.heap.size<W.heap.size):=Xa hz;cases uA with
 | false =>
  go_wp2_with fail
  refine(HB.out _).mono ?_;rintro e w1 ⟨rfl,hw1⟩;rw[hw1];clear hw1 w1;cases uB with
  | false =>
   go_wp2
   go_ret
   have hr:=HR.out;simp at hr;subst hr;obtain⟨a1,c1,e1,hi1⟩:=Xj (xs:=([]:List Int)) (by simpa using HO.out);exact⟨a1,c1,congrArg Ending.returned e1,HW.out,hi1.mono oM (Nat.le_refl _)⟩
  | true =>
   go_wp2_with (at_builtin;refine wpList_append_own _ rfl _ _ 26 rfl (w.heap.size+1) 2 i0 (.int .i64 0) 1 8 Tryz.underlying26 hi0 hz0 hz1 hz2 rfl vZ _ _ _ rfl (HO.alloc _) ⟨W.heap.size,0,none⟩ 1 1 [.int .i64 yb] rfl rfl ?c1 ?c2 ?c3 ?c4 ?c5 ?_)
   case c1 =>
    intro j u hj
    match j,hj with
    | 0,hj=>simp at hj;subst hj;simp[Addr.add]
   case c2=>intro u hu;simp at hu;subst hu;rfl
   case c3=>unfold maxLen;(try simp);(try omega)
   case c4=>simp
   case c5=>simp;omega
   intro v1 w9 hown1 hgrow1 _;have hb9:=XI (Xb HW.out _) hgrow1 (HO.alloc _) oM (by simp;omega);have HB9:=Xa hb9;have HO9:=Xa hown1;clear hown1 hgrow1 hb9;go_wp2
   go_ret
   have hr:=HR.out;simp at hr;subst hr;obtain⟨a1,c1,e1,hi1⟩:=Xj (xs:=([]:List Int)++[yb]) (by simpa using HO9.out);exact⟨a1,c1,congrArg Ending.returned e1,HB9.out,hi1.mono oM (Nat.le_refl _)⟩
 | true =>
  go_wp2_with (at_builtin;refine wpList_append_own _ rfl _ _ 26 rfl (w.heap.size+1) 2 i0 (.int .i64 0) 1 8 Tryz.underlying26 hi0 hz0 hz1 hz2 rfl vZ _ _ _ rfl (HO.alloc _) ⟨W.heap.size,0,none⟩ 1 1 [.int .i64 ya] rfl rfl ?c1 ?c2 ?c3 ?c4 ?c5 ?_)
  case c1 =>
   intro j u hj
   match j,hj with
   | 0,hj=>simp at hj;subst hj;simp[Addr.add]
  case c2=>intro u hu;simp at hu;subst hu;rfl
  case c3=>unfold maxLen;(try simp);(try omega)
  case c4=>simp
  case c5=>simp;omega
  intro v0 w2 hown0 hgrow0 _;have hb2:=XI (Xb HW.out _) hgrow0 (HO.alloc _) oM (by simp;omega);have hbk:=Y9 hgrow0 (HO.alloc _) (b:=w.heap.size) oM (by simp;omega);have d3:w2.cell? ⟨w.heap.size,3,none⟩=some (.int .i64 yb):=(Xc hbk).trans ((World.cell?_alloc_lt W _ ⟨w.heap.size,3,none⟩ hz).trans c3);have d0:w2.cell? ⟨w.heap.size,0,none⟩=some (.int .i64 op):=(Xc hbk).trans ((World.cell?_alloc_lt W _ ⟨w.heap.size,0,none⟩ hz).trans c0);have HB2:=Xa hb2;have HO2:Hid (w2.ownsRow (w.heap.size+1) 2 1 v0 1 [.int .i64 ya]):=Xa (by simpa using hown0);have hz2':w.heap.size<w2.heap.size:=by have:=hgrow0.size;simp at this;omega
  clear hown0 hgrow0 hbk hb2 c0 c2 c3
  go_wp2_with fail
  refine(HB.out _).mono ?_;rintro e w1 ⟨rfl,hw1⟩;rw[hw1];clear hw1 w1;cases uB with
  | false =>
   go_wp2
   go_ret
   have hr:=HR.out;simp at hr;subst hr;obtain⟨a1,c1,e1,hi1⟩:=Xj (xs:=[ya]) (by simpa using HO2.out);exact⟨a1,c1,congrArg Ending.returned e1,HB2.out,hi1.mono oM (Nat.le_refl _)⟩
  | true =>
   go_wp2_with (at_builtin;refine wpList_append_own _ rfl _ _ 26 rfl (w.heap.size+1) 2 i0 (.int .i64 0) 1 8 Tryz.underlying26 hi0 hz0 hz1 hz2 rfl vZ _ _ _ rfl (HO2.alloc _) ⟨w2.heap.size,0,none⟩ 1 1 [.int .i64 yb] rfl rfl ?c1 ?c2 ?c3 ?c4 ?c5 ?_)
   case c1 =>
    intro j u hj
    match j,hj with
    | 0,hj=>simp at hj;subst hj;simp[Addr.add]
   case c2=>intro u hu;simp at hu;subst hu;rfl
   case c3=>unfold maxLen;(try simp);(try omega)
   case c4=>simp
   case c5=>simp;omega
   intro v1 w9 hown1 hgrow1 _;have hb9:=XI (Xb HB2.out _) hgrow1 (HO2.alloc _) oM (by simp;omega);have HB9:=Xa hb9;have HO9:=Xa hown1;clear hown1 hgrow1 hb9;go_wp2
   go_ret
   have hr:=HR.out;simp at hr;subst hr;obtain⟨a1,c1,e1,hi1⟩:=Xj (xs:=[ya]++[yb]) (by simpa using HO9.out);exact⟨a1,c1,congrArg Ending.returned e1,HB9.out,hi1.mono oM (Nat.le_refl _)⟩
theorem Za4(pa:Option Addr)(n pc:Nat)(ps:List Ph)(v1 v2 v3 v4 v5:Value)(L B:Nat)(w:World)(hp:Hid (XZ w L B pa ps))(hx:Hid (n=ps.length))(hn:n<=4000)(hB:B<=w.heap.size) :
 Calls Tryz.prog 79 #[.agg #[.slice pa n pc,v1,v2,v3,v4,v5]] w fun e w'=>∃a c,e=.returned (.slice a (ps.map Ph.dst).length c)/\Below w.heap.size w w'/\Xg w' w.heap.size w'.heap.size a (ps.map Ph.dst):=by
 obtain⟨i0,hi0,hz0,hz1,hz2⟩:=info_parts Tryz.info2'
 go_enter Tryz.func79,Tryz.ntmps79
 go_wp2
 go_loopw [3,4] (fun u i wr=>∃k:Nat,k<=n/\i=.int .i64 k/\Hid (Below w.heap.size w wr)/\w.heap.size<wr.heap.size/\wr.cell? ⟨w.heap.size,0,none⟩=some (.slice pa n pc)/\Hid (wr.ownsRow (w.heap.size+1) 2 1 u k (((ps.map Ph.dst).take k).map (Value.int .i64)))) (fun _ i _=>n-(intOf i).toNat)
 case atStart=>exact⟨0,Nat.zero_le _,rfl,Xa (Xb (Xb (Below.refl _ _) _) _),by simp;omega,sP,Xa (Jd _ _)⟩
 case round =>
  obtain⟨k,hk,rfl,HB,hsz,hcell,HO⟩:=hrel;by_cases hlt:k<n
  ·have hkx:k<ps.length:=by have:=hx.out;omega
   obtain⟨b,o,rfl,⟨_,hbB⟩,ha,hc,h1,h2,_⟩:=(hp.keep (HB.mono hB)) k hkx;have HN:Hid ((ps.map Ph.dst).take (k+1)=(ps.map Ph.dst).take k++[ps[k].dst]):=Xa (by rw[Xr _ _ (by simpa using hkx)];simp);generalize ps[k]=X at *;generalize (ps.map Ph.dst).take k=dk at *
   go_wp2_with (at_builtin;refine wpList_append_own _ rfl _ _ 26 rfl (w.heap.size+1) 2 i0 (.int .i64 0) 1 8 Tryz.underlying26 hi0 hz0 hz1 hz2 rfl vZ _ _ _ rfl (HO.alloc _) ⟨wr.heap.size,0,none⟩ 1 1 [.int .i64 X.dst] rfl rfl ?c1 ?c2 ?c3 ?c4 ?c5 ?_)
   case c1 =>
    intro j u hj
    match j,hj with
    | 0,hj=>simp at hj;subst hj;simp[Addr.add]
   case c2=>intro u hu;simp at hu;subst hu;rfl
   case c3=>unfold maxLen;omega
   case c4=>omega
   case c5=>simp;omega
   intro u1 w1 hown1 hgrow1 _;have HO1:=Xa hown1;clear hown1;go_wp2;have hb2:Below w.heap.size w w1:=XI (Xb HB.out _) hgrow1 (HO.alloc _) oM (by simp;omega);have hbk:=Y9 hgrow1 (HO.alloc _) (b:=w.heap.size) oM (by simp;omega);have hsz1:=hgrow1.size;simp at hsz1;exact⟨⟨k+1,oM,gM,Xa hb2,oM,(Xc hbk).trans ((World.cell?_alloc_lt wr _ ⟨w.heap.size,0,none⟩ hsz).trans hcell),Xa (by rw[HN.out,Ys];exact HO1.out)⟩,by simp[intOf];omega⟩
  ·go_wp2
   go_ret
   have hown:=HO.out;rw[List.take_of_length_le (by have:=hx.out;simp;omega)]at hown;obtain⟨a1,c1,rfl,hi1⟩:=Xj hown;exact⟨_,_,rfl,HB.out,hi1.mono oM (Nat.le_refl _)⟩
def edP(ps:List Int)(hs:List Ph)(p:Int)(i:Nat):List Int:=(List.range i).flatMap fun i=>if ps.getD i 0=p then hs.map (fun h=>h.args.getD i 0)else []
theorem ZaG(ps:List Int)(hs:List Ph)(p:Int)(i:Nat):edP ps hs p (i+1)=edP ps hs p i++(if ps.getD i 0=p then hs.map (fun h=>h.args.getD i 0)else []):=by
 unfold edP;rw[List.range_succ,List.flatMap_append];simp
theorem Zak(ps:List Int)(hs:List Ph)(p:Int):∀i,(edP ps hs p i).length<=i*hs.length
 | 0=>by simp[edP]
 | i+1=>by
  have:=Zak ps hs p i;rw[ZaG,List.length_append,Nat.succ_mul];split
  ·rw[List.length_map];omega
  ·simp;omega
theorem Wp(V:Nat)(a:Option Addr)(n c:Nat)(p:Int)(t:Nat)(xs:List Xi)(L B:Nat)(w:World)(ha:Hid (Xl w L B a xs))(hx:Hid (n=xs.length))(hB:B<=w.heap.size)(ho:Hid (ZZ V xs))(htn:t<n) :
 Calls Tryz.prog 81 #[.agg #[.int .i64 (V:Int),.slice a n c],.int .i64 p,.int .i64 (t:Int)] w fun e w'=>∃ad c',e=.returned (.slice (some ad) (edgeU xs p (t:Int)).length c')/\Below w.heap.size w w'/\Xg w' w.heap.size w'.heap.size (some ad) (edgeU xs p (t:Int)):=by
 obtain⟨i0,hi0,hz0,hz1,hz2⟩:=info_parts Tryz.info2';have hn:n<=1000:=by have:=hx.out;have:=ho.okf.n2;omega
 have htx:t<xs.length:=by have:=hx.out;omega
 obtain⟨b,o,rfl,⟨hbL,hbB⟩,hc⟩:=ha.out t htx;obtain⟨pa,pc,ia,ic,q0,_,_,hph,_⟩:=hc;have HPH:=Xa hph;have HPA:=Xa (ho.pha t htx);have hlp:=(ho.lens _ (List.getElem_mem htx)).2;have HED:Hid (edgeU xs p (t:Int)=if xs[t].phis=[]then []else edP (predsFrom xs 0 (t:Int)) xs[t].phis p (predsFrom xs 0 (t:Int)).length):=Xa (by unfold edgeU edP;rw[Int.toNat_natCast,List.getElem?_eq_getElem htx]);have HPR:=Xa (fun W (hW:Below w.heap.size w W)=>JW (V:Int) (some ⟨b,o,none⟩) n c (t:Int) xs L B W (Xa (ha.keep (hW.mono hB))) hx oM (by have:=hW.size;omega));have hpl:=Yc (t:Int) xs 0;have hpl2:(predsFrom xs 0 (t:Int)).length<=1000:=by have:=hx.out;omega
 generalize predsFrom xs 0 (t:Int)=pr at *;generalize edgeU xs p (t:Int)=ed at *;generalize xs[t].phis=ps at *;clear hph;have hbw:b<w.heap.size:=oM;have qa:=fun o1 o2=>((Xb (Xb (Below.refl w.heap.size w) o1) o2).cell (p:=⟨b,o+t*6,none⟩) hbw).trans q0
 clear q0
 go_enter Tryz.func81,Tryz.ntmps81
 by_cases h0:ps.length=0
 ·have hpe:ps=[]:=List.eq_nil_of_length_eq_zero h0
  have he:ed=[]:=by rw[HED.out,if_pos hpe]
  have HBW:Hid (Below w.heap.size w ((w.alloc (.cells #[.int .i64 (V:Int),.slice (some ⟨b,o,none⟩) n c] 32)).alloc (.cells #[] 2))):=Xa (Xb (Xb (Below.refl _ _) _) _);simp only[h0]at qa;clear hpl2 hlp hpl;go_wp2
  go_ret
  rw[he];exact⟨_,_,rfl,HBW.out,fun i hi=>absurd hi sP⟩
 ·have h0':((ps.length:Int)==0)=false:=by simp[h0]
  have hpe:ps≠[]:=fun e=>h0 (by rw[e];rfl)
  have HED2:Hid (ed=edP pr ps p pr.length):=Xa (by rw[HED.out,if_neg hpe]);clear HED hpe;have HOE:=Xa (Jd w (.cells #[.int .i64 (V:Int),.slice (some ⟨b,o,none⟩) n c] 32));have HB0:Hid (Below w.heap.size w ((w.alloc (.cells #[.int .i64 (V:Int),.slice (some ⟨b,o,none⟩) n c] 32)).alloc (.cells #[] 2))):=Xa (Xb (Xb (Below.refl _ _) _) _);have hz0':((w.alloc (.cells #[.int .i64 (V:Int),.slice (some ⟨b,o,none⟩) n c] 32)).alloc (.cells #[] 2)).heap.size=w.heap.size+2:=sP;have hf0:((w.alloc (.cells #[.int .i64 (V:Int),.slice (some ⟨b,o,none⟩) n c] 32)).alloc (.cells #[] 2)).cell? ⟨w.heap.size,1,none⟩=some (.slice (some ⟨b,o,none⟩) n c):=sP
  go_wp2_with fail
  refine(HPR.out _ HB0.out).mono ?_;rintro e w1 ⟨a1,c1,rfl,hb1,hi1⟩;rw[hz0']at hb1 hi1;have hz1':=hb1.size;rw[hz0']at hz1';have HB1:Hid (Below w.heap.size w w1):=Xa (HB0.trans (hb1.mono oM));have hf1:=(XD hb1 oM).trans hf0;have HI1:=Xa hi1;have HG0:Hid (JD w1 (w.heap.size+1) w1 (.slice (some ⟨w.heap.size+1,0,none⟩) 0 0) []):=Xa (JD.start (Yr HOE.out (fun g e=>by
   have e':w.heap.size+1=g:=by simpa [Value.ownBlock]using e
   subst e';exact hb1.block _ oM)) (fun g e=>by
   have e':w.heap.size+1=g:=by simpa [Value.ownBlock]using e
   exact e'.symm))
  have HQ0:=(HB1.cell (p:=⟨b,o+t*6,none⟩) hbw).trans (by have:=qa (.cells #[] 0) (.cells #[] 0);exact((Xb (Xb (Below.refl w.heap.size w) _) _).cell (p:=⟨b,o+t*6,none⟩) hbw).symm.trans this);have HQQ:=Xa HQ0;have HF1:=Xa hf1;have HPHW:Hid (XZ w1 L B pa ps):=Xa (HPH.keep (HB1.mono hB));have HED3:Hid (ed=edP pr ps p pr.length):=HED2;obtain⟨np,hnp⟩:∃m,m=pr.length:=⟨_,rfl⟩;rw[<-hnp]at hpl2;have HNP:=Xa hnp;obtain⟨nh,hnh⟩:∃m,m=ps.length:=⟨_,rfl⟩;rw[<-hnh]at HQQ hlp h0';have HNH:=Xa hnh;clear hb1 hi1 hf0 hf1 hz0' HQ0 qa HOE HB0 HPR HED2 hpl;rw[<-hnp];clear hnp hnh
  go_wp2_with fail
  go_loopw [7,9] (fun u i wr=>∃k:Nat,k<=np/\i=.int .i64 k/\Hid (JD w1 (w.heap.size+1) wr u (edP pr ps p k))/\Hid (u≠.slice none 0 0)) (fun _ i _=>np-(intOf i).toNat)
  case atStart=>exact⟨0,Nat.zero_le _,rfl,HG0,Xa sP⟩
  case round =>
   clear HG0;obtain⟨k,hk,rfl,HG,HU⟩:=hrel;by_cases hlt:k<np
   ·have hkp:k<pr.length:=by rw[<-HNP.out];exact hlt
    obtain⟨b1,o1,rfl,⟨hb1l,hb1u⟩,hc1⟩:=HI1.out k hkp;have k1:=HG.cell oM hc1;have kf:=HG.cell oM HF1.out;have kq:=HG.cell oM HQQ.out;have HSU:Hid (edP pr ps p (k+1)=edP pr ps p k++(if pr[k]=p then ps.map (fun h=>h.args.getD k 0)else [])):=Xa (by rw[ZaG];congr 1;rw[List.getD_eq_getElem?_getD,List.getElem?_eq_getElem hkp];rfl);have HLE:Hid ((edP pr ps p k).length<=4000000):=Xa (Nat.le_trans (Zak pr ps p k) (Nat.le_trans (Nat.mul_le_mul (show k<=1000 by omega) (show ps.length<=4000 by rw[<-HNH.out];exact hlp)) vZ));generalize pr[k]=pk at *;clear hc1;by_cases hpk:pk=p
    ·subst hpk
     have HS2:Hid (edP pr ps pk (k+1)=edP pr ps pk k++ps.map (fun h=>h.args.getD k 0)):=Xa (by have h:=HSU.out;rw[if_pos rfl]at h;exact h);have hbq:(pk==pk)=true:=sP;generalize edP pr ps pk k=ek at *;clear HSU
     go_wp2_with fail
     clear k1 kf kq;generalize wr=wo at *
     go_loopw [7,10] (fun u j wr=>∃m:Nat,m<=nh/\j=.int .i64 m/\Hid (JD w1 (w.heap.size+1) wr u (ek++(ps.map (fun h=>h.args.getD k 0)).take m))/\Hid (u≠.slice none 0 0)) (fun _ i _=>nh-(intOf i).toNat)
     case atStart=>exact⟨0,Nat.zero_le _,rfl,Xa (by simpa using HG.out),HU⟩
     case round =>
      obtain⟨m,hm,rfl,HG2,HU2⟩:=hrel;have kf:=HG2.cell oM HF1.out;have kq:=HG2.cell oM HQQ.out;by_cases hlt2:m<nh
      ·have hmp:m<ps.length:=by rw[<-HNH.out];exact hlt2
       obtain⟨b2,o2,rfl,⟨hb2l,hb2u⟩,aa,ac,g0,g1,gi⟩:=HPHW.out m hmp;have hal:=(HPA.out ps[m] (List.getElem_mem hmp)).1;have hka:k<ps[m].args.length:=oM;obtain⟨b3,o3,rfl,⟨hb3l,hb3u⟩,g3⟩:=gi k hka;have m1:=HG2.cell oM g1;have m3:=HG2.cell oM g3;have HTK:Hid ((ps.map (fun h=>h.args.getD k 0)).take (m+1)=(ps.map (fun h=>h.args.getD k 0)).take m++[ps[m].args[k]]):=Xa (by rw[Xr _ _ (by simpa using hmp)];simp[hka]);have HLL:Hid ((ek++(ps.map (fun h=>h.args.getD k 0)).take m).length<=4004000):=Xa (by have:=HLE.out;rw[List.length_append,List.length_take];omega);have hkA:(k:Int)<(ps[m].args.length:Int):=oM;generalize (ps.map (fun h=>h.args.getD k 0)).take m=tm at *;generalize ps[m].args[k]=av at *;generalize ps[m].args.length=la at *;generalize hel:ek++tm=el at *;have HEL:=Xa hel;clear g0 g1 g3 gi hal hel
       go_wp2_with (at_builtin;refine wpList_append_own_at _ rfl _ _ 26 rfl (w.heap.size+1) 2 i0 (.int .i64 0) 1 8 Tryz.underlying26 hi0 hz0 hz1 hz2 rfl vZ _ _ _ rfl (HG2.own.alloc _) ⟨wr.heap.size,0,none⟩ 1 1 [.int .i64 av] rfl rfl ?c1 ?c2 ?c3 ?c4 ?c5 ?_)
       case c1 =>
        intro j u hj
        match j,hj with
        | 0,hj=>simp at hj;subst hj;simp[Addr.add]
       case c2=>intro u hu;simp at hu;subst hu;rfl
       case c3=>have:=HLL.out;unfold maxLen;omega
       case c4=>have:=HLL.out;omega
       case c5=>have:=HG2.size;simp;omega
       intro u1 w2 hown1 hgrow1 hne1 hat1;have HG3:=Xa ((HG2.alloc _).push (x:=av) hgrow1 hown1 (by rw[World.size_alloc];exact hat1));have HU3:Hid (u1≠.slice none 0 0):=Xa hne1;clear hown1 hgrow1 hat1 hne1 kf kq m1 m3
       go_wp2_with fail
       exact⟨⟨m+1,oM,gM,Xa (by rw[HTK.out,<-List.append_assoc,HEL.out];exact HG3.out),HU3⟩,by simp[intOf];omega⟩
      ·have hme:nh<=m:=oM
       go_wp2_with fail
       exact⟨⟨k+1,oM,gM,Xa (by rw[HS2.out];have h:=HG2.out;rw[List.take_of_length_le (by rw[List.length_map,<-HNH.out];exact hme)]at h;exact h),HU2⟩,by simp[intOf];omega⟩
    ·have HS2:Hid (edP pr ps p (k+1)=edP pr ps p k):=Xa (by have h:=HSU.out;rw[if_neg hpk,List.append_nil]at h;exact h)
     have hbq:(pk==p)=false:=by simp[hpk]
     clear HSU hpk
     go_wp2_with fail
     exact⟨⟨k+1,oM,gM,Xa (by rw[HS2.out];exact HG.out),HU⟩,by simp[intOf];omega⟩
   ·have hke:k=pr.length:=by have:=HNP.out;omega
    go_wp2_with fail
    go_ret
    have hown:=HG.own;rw[hke,<-HED3.out]at hown;obtain⟨ad,cc,e2,hi⟩:=Xj hown;cases ad with
    | none =>
     exfalso;rcases Tr hown with⟨h1,_,_⟩ | h1
     ·exact HU.out h1
     ·obtain⟨g,cap,h1,_⟩:=h1
      rw[h1]at e2;injection e2 with e2;cases e2
    | some ad =>
     refine⟨ad,cc,congrArg Ending.returned e2,⟨HG.os.trans HB1.os,HG.tape.trans HB1.tape,HG.output.trans HB1.output,Nat.le_trans HB1.size HG.size,fun q hq=>(HG.fr q oM oM).trans (HB1.block q hq)⟩,hi.mono oM (Nat.le_refl _)⟩
section
def Zz(x:Xi):List (List Int):=x.instrs.map rdI
def YN(x:Xi):List Int:=x.instrs.map defI
theorem XW.mono{w:World}{P Q:Nat->Prop}{a:Option Addr}{xs:List Int}(h:XW w P a xs)(k:∀b,b<w.heap.size->P b->Q b):XW w Q a xs:=fun i hi=>by
 obtain⟨b,o,e,hb,hc⟩:=h i hi;exact⟨b,o,e,⟨k b hb.2 hb.1,hb.2⟩,hc⟩
theorem XW.keep{w w':World}{P:Nat->Prop}{a:Option Addr}{xs:List Int}(h:XW w P a xs)(k:∀b,b<w.heap.size->P b->w'.heap[b]?=w.heap[b]?)(hz:w.heap.size<=w'.heap.size):XW w' P a xs:=fun i hi=>by
 obtain⟨b,o,e,hb,hc⟩:=h i hi;exact⟨b,o,e,⟨hb.1,Nat.lt_of_lt_of_le hb.2 hz⟩,(Xc (k b hb.2 hb.1)).trans hc⟩
theorem JO.mono{w:World}{P Q:Nat->Prop}{a:Option Addr}{xs:List (List Int)}(h:JO w P a xs)(k:∀b,b<w.heap.size->P b->Q b):JO w Q a xs:=fun i hi=>by
 obtain⟨b,o,e,hb,a',c',hc,h2⟩:=h i hi;exact⟨b,o,e,⟨k b hb.2 hb.1,hb.2⟩,a',c',hc,h2.mono k⟩
theorem JO.keep{w w':World}{P:Nat->Prop}{a:Option Addr}{xs:List (List Int)}(h:JO w P a xs)(k:∀b,b<w.heap.size->P b->w'.heap[b]?=w.heap[b]?)(hz:w.heap.size<=w'.heap.size):JO w' P a xs:=fun i hi=>by
 obtain⟨b,o,e,hb,a',c',hc,h2⟩:=h i hi;exact⟨b,o,e,⟨hb.1,Nat.lt_of_lt_of_le hb.2 hz⟩,a',c',(Xc (k b hb.2 hb.1)).trans hc,h2.keep k hz⟩
theorem XW.of_at{w:World}{L B:Nat}{P:Nat->Prop}{a:Option Addr}{xs:List Int}(h:Xg w L B a xs)(hB:B<=w.heap.size)(k:∀b,L<=b->b<B->P b):XW w P a xs:=fun i hi=>by
 obtain⟨b,o,e,hb,hc⟩:=h i hi;exact⟨b,o,e,⟨k b hb.1 hb.2,oM⟩,hc⟩
theorem XW.at_{w:World}{P:Nat->Prop}{a:Option Addr}{xs:List Int}(h:XW w P a xs):Xg w 0 w.heap.size a xs:=fun i hi=>by
 obtain⟨b,o,e,hb,hc⟩:=h i hi;exact⟨b,o,e,⟨Nat.zero_le _,hb.2⟩,hc⟩
structure TQ(w:World)(P:Nat->Prop)(us:Nat->Value)(x:Xi)(E:List Int):Prop where
 e0:∃a c,us 0=.slice a x.term.targets.length c/\XW w P a x.term.targets
 e1:∃a c,us 1=.slice a (x.phis.map Ph.dst).length c/\XW w P a (x.phis.map Ph.dst)
 e2:∃a c,us 2=.slice a E.length c/\XW w P a E
 e3:∃a c,us 3=.slice a (Zz x).length c/\JO w P a (Zz x)
 e4:∃a c,us 4=.slice a (YN x).length c/\XW w P a (YN x)
 e5:∃a c,us 5=.slice a (rdT x.term).length c/\XW w P a (rdT x.term)
theorem TQ.keep{w w':World}{P:Nat->Prop}{us:Nat->Value}{x:Xi}{E:List Int}(h:TQ w P us x E)(k:∀b,b<w.heap.size->P b->w'.heap[b]?=w.heap[b]?)(hz:w.heap.size<=w'.heap.size):TQ w' P us x E:=by
 obtain⟨⟨a0,c0,e0,h0⟩,⟨a1,c1,e1,h1⟩,⟨a2,c2,e2,h2⟩,⟨a3,c3,e3,h3⟩,⟨a4,c4,e4,h4⟩,⟨a5,c5,e5,h5⟩⟩:=h;exact⟨⟨a0,c0,e0,h0.keep k hz⟩,⟨a1,c1,e1,h1.keep k hz⟩,⟨a2,c2,e2,h2.keep k hz⟩,⟨a3,c3,e3,h3.keep k hz⟩,⟨a4,c4,e4,h4.keep k hz⟩,⟨a5,c5,e5,h5.keep k hz⟩⟩
theorem TQ.mono{w:World}{P Q:Nat->Prop}{us:Nat->Value}{x:Xi}{E:List Int}(h:TQ w P us x E)(k:∀b,b<w.heap.size->P b->Q b):TQ w Q us x E:=by
 obtain⟨⟨a0,c0,e0,h0⟩,⟨a1,c1,e1,h1⟩,⟨a2,c2,e2,h2⟩,⟨a3,c3,e3,h3⟩,⟨a4,c4,e4,h4⟩,⟨a5,c5,e5,h5⟩⟩:=h;exact⟨⟨a0,c0,e0,h0.mono k⟩,⟨a1,c1,e1,h1.mono k⟩,⟨a2,c2,e2,h2.mono k⟩,⟨a3,c3,e3,h3.mono k⟩,⟨a4,c4,e4,h4.mono k⟩,⟨a5,c5,e5,h5.mono k⟩⟩
structure EdL(W1:World)(bx:Nat)(f0:Nat->Value)(wr:World)(u:Value)(l:List Int):Prop where
 os:wr.os=W1.os
 tape:wr.tape=W1.tape
 output:wr.output=W1.output
 size:W1.heap.size<=wr.heap.size
 fr:∀q,q<W1.heap.size->q≠bx->wr.heap[q]?=W1.heap[q]?
 box:wr.rowIs bx 102 6 (fun i=>if i=2 then u else f0 i)
 own:wr.ownsRow W1.heap.size 2 1 u l.length (l.map (Value.int .i64))
section
variable {W1 wr w5 w6 : World} {bx : Nat} {f0 : Nat -> Value} {u u' : Value} {l qs : List Int}
theorem EdL.start(hb:W1.rowIs bx 102 6 f0)(h2:f0 2=.slice none 0 0):EdL W1 bx f0 W1 (.slice none 0 0) [] :=
 ⟨rfl,rfl,rfl,Nat.le_refl _,fun _ _ _=>rfl,hb.congr (fun i _=>by by_cases e:i=2<;>simp[e,h2]),World.ownsRow_nil _ _ _ _⟩
theorem EdL.push(h:EdL W1 bx f0 wr u l)(hx:bx<W1.heap.size)(k5:Below wr.heap.size wr w5)(hg:w5.grownBy w6 u.ownBlock)(ho:w6.ownsRow W1.heap.size 2 1 u' (l++qs).length ((l++qs).map (Value.int .i64))):EdL W1 bx f0 (w6.setCell ⟨bx,2,none⟩ u') u' (l++qs):=by
 have hz:=h.size;have hz5:=k5.size;have hz6:=hg.size;have hbl:∀q,q<W1.heap.size->w6.heap[q]?=wr.heap[q]?:=fun q hq=>(hg.block q oM (fun e=>by have:=(h.own.lt q e.symm).1;omega)).trans (k5.block q oM)
 refine⟨hg.os.trans (k5.os.trans h.os),hg.tape.trans (k5.tape.trans h.tape),hg.output.trans (k5.output.trans h.output),by rw[Xd];omega,fun q h1 h2=>(Below.heap_setCell _ _ _ _ h2).trans ((hbl q h1).trans (h.fr q h1 h2)),((h.box.of_block (hbl bx hx)).set 2 u').congr (fun i _=>by by_cases e:i=2<;>simp[e]),ownsRow_setCell_below ho hx _⟩
theorem EdL.cell(h:EdL W1 bx f0 wr u l){b o:Nat}{v:Value}(hb:b≠bx)(hc:W1.cell? ⟨b,o,none⟩=some v):wr.cell? ⟨b,o,none⟩=some v:=(Xc (h.fr b (World.block_lt_of_cell? W1 _ hc) hb)).trans hc
end
structure InL(W2:World)(bx:Nat)(f0:Nat->Value)(wr:World)(ur ud:Value)(rs:List Value)(zs:List (List Int))(ds:List Int):Prop where
 os:wr.os=W2.os
 tape:wr.tape=W2.tape
 output:wr.output=W2.output
 size:W2.heap.size<=wr.heap.size
 fr:∀q,q<W2.heap.size->q≠bx->wr.heap[q]?=W2.heap[q]?
 box:wr.rowIs bx 102 6 (fun i=>if i=3 then ur else if i=4 then ud else f0 i)
 ownR:wr.ownsRow W2.heap.size 62 1 ur rs.length rs
 len:rs.length=zs.length
 rows:∀i (h:i<zs.length),∃a' c',rs[i]?=some (.slice a' zs[i].length c')/\XW wr (fun b=>W2.heap.size<=b/\some b≠ur.ownBlock/\some b≠ud.ownBlock) a' zs[i]
 ownD:wr.ownsRow W2.heap.size 2 1 ud ds.length (ds.map (Value.int .i64))
 ne:∀g,ur.ownBlock=some g->ud.ownBlock≠some g
section
variable {W2 wr w5 w6 : World} {bx : Nat} {f0 : Nat -> Value} {ur ud ur' ud' : Value} {rs : List Value} {zs : List (List Int)} {ds : List Int}
theorem InL.start(hb:W2.rowIs bx 102 6 f0)(h3:f0 3=.slice none 0 0)(h4:f0 4=.slice none 0 0):InL W2 bx f0 W2 (.slice none 0 0) (.slice none 0 0) [] [] [] :=
 ⟨rfl,rfl,rfl,Nat.le_refl _,fun _ _ _=>rfl,hb.congr (fun i _=>by by_cases e:i=3<;>by_cases e2:i=4<;>simp[e,e2,h3,h4]),World.ownsRow_nil _ _ _ _,rfl,fun i h=>absurd h sP,World.ownsRow_nil _ _ _ _,fun g e=>by cases e⟩
theorem InL.below(h:InL W2 bx f0 wr ur ud rs zs ds)(k:Below wr.heap.size wr w5):InL W2 bx f0 w5 ur ud rs zs ds:=by
 have hz:=h.size;refine⟨k.os.trans h.os,k.tape.trans h.tape,k.output.trans h.output,Nat.le_trans hz k.size,fun q h1 h2=>(k.block q oM).trans (h.fr q h1 h2),h.box.of_block (k.block _ h.box.lt),Yr h.ownR (fun g e=>k.block g (h.ownR.lt g e).2),h.len,fun i hi=>?_,Yr h.ownD (fun g e=>k.block g (h.ownD.lt g e).2),h.ne⟩;obtain⟨a',c',e,hp⟩:=h.rows i hi;exact⟨a',c',e,hp.keep (fun b hb _=>k.block b hb) k.size⟩
theorem InL.pushR{a5:Option Addr}{c5:Nat}{ys:List Int}(h:InL W2 bx f0 wr ur ud rs zs ds)(hx:bx<W2.heap.size){B0:Nat}(hB0:W2.heap.size<=B0)(hB1:∀g,ur.ownBlock=some g->g<B0)(hB2:∀g,ud.ownBlock=some g->g<B0)(hi5:Xg wr B0 wr.heap.size a5 ys)(hg:wr.grownBy w6 ur.ownBlock)(ho:w6.ownsRow W2.heap.size 62 1 ur' (rs.length+1) (rs++[.slice a5 ys.length c5]))(hat:ur'.ownBlock=ur.ownBlock\/ur'.ownBlock=some wr.heap.size) :
 InL W2 bx f0 (w6.setCell ⟨bx,3,none⟩ ur') ur' ud (rs++[.slice a5 ys.length c5]) (zs++[ys]) ds:=by
 have hz:=h.size;have hz6:=hg.size;have hnb:∀q,q<W2.heap.size->some q≠ur.ownBlock:=fun q hq e=>by have:=(h.ownR.lt q e.symm).1;omega
 have hnew:∀b,b<wr.heap.size->some b≠ur.ownBlock->some b≠ur'.ownBlock:=fun b hb h1 e=>by
  rcases hat with k | k
  ·exact h1 (by rw[<-k];exact e)
  ·rw[k]at e;injection e with e;omega
 have keep:∀b,b<wr.heap.size->b≠bx->some b≠ur.ownBlock->(w6.setCell ⟨bx,3,none⟩ ur').heap[b]?=wr.heap[b]?:=fun b h1 h2 h3=>(Below.heap_setCell _ _ _ _ h2).trans (hg.block b h1 h3)
 refine⟨hg.os.trans h.os,hg.tape.trans h.tape,hg.output.trans h.output,by rw[Xd];omega,fun q h1 h2=>(keep q oM h2 (hnb q h1)).trans (h.fr q h1 h2),((h.box.of_block (hg.block bx oM (hnb _ hx))).set 3 ur').congr (fun i _=>by by_cases e:i=3<;>simp[e]),?_,by simp[h.len],fun i hi=>?_,?_,fun g e=>?_⟩
 ·rw[List.length_append]
  exact ownsRow_setCell_below ho hx _
 ·by_cases e:i<zs.length
  ·obtain⟨a',c',e1,hp⟩:=h.rows i e
   refine⟨a',c',?_,?_⟩
   ·rw[List.getElem?_append_left (by rw[h.len];exact e),List.getElem_append_left e];exact e1
   ·rw[List.getElem_append_left e]
    refine(hp.mono (Q:=fun b=>W2.heap.size<=b/\some b≠ur.ownBlock/\some b≠ur'.ownBlock/\some b≠ud.ownBlock) (fun b hb q=>⟨q.1,q.2.1,hnew b hb q.2.1,q.2.2⟩)).keep (fun b hb q=>keep b hb oM q.2.1) (by rw[Xd];omega) |>.mono (fun b _ q=>⟨q.1,q.2.2.1,q.2.2.2⟩)
  ·have e':i=zs.length:=by simp at hi;omega
   subst e';refine⟨a5,c5,?_,?_⟩
   ·rw[List.getElem?_append_right (by rw[h.len];exact Nat.le_refl _),h.len];simp
   ·rw[List.getElem_append_right (Nat.le_refl _)]
    simp only[Nat.sub_self,List.getElem_cons_zero];have hp:XW wr (fun b=>B0<=b) a5 ys:=XW.of_at hi5 (Nat.le_refl _) (fun b h1 _=>h1);have hp2:=hp.mono (Q:=fun b=>W2.heap.size<=b/\some b≠ur'.ownBlock/\some b≠ud.ownBlock/\some b≠ur.ownBlock) (fun b hb q=>⟨oM,hnew b hb (fun e=>by have:=hB1 b e.symm;omega),fun e=>by have:=hB2 b e.symm;omega,fun e=>by have:=hB1 b e.symm;omega⟩);exact(hp2.keep (w':=w6.setCell ⟨bx,3,none⟩ ur') (fun b hb q=>keep b hb oM q.2.2.2) (by rw[Xd];omega)).mono (fun b _ q=>⟨q.1,q.2.1,q.2.2.1⟩)
 ·refine Yr h.ownD (fun g e=>keep g (h.ownD.lt g e).2 (by have:=(h.ownD.lt g e).1;omega) (fun e2=>h.ne g e2.symm e))
 ·rcases hat with k | k
  ·rw[k]at e;exact h.ne g e
  ·rw[k]at e
   injection e with e;intro e2;have:=(h.ownD.lt g e2).2;omega
theorem InL.pushD{x:Int}(h:InL W2 bx f0 wr ur ud rs zs ds)(hx:bx<W2.heap.size)(hg:wr.grownBy w6 ud.ownBlock)(ho:w6.ownsRow W2.heap.size 2 1 ud' (ds.length+1) (ds.map (Value.int .i64)++[.int .i64 x]))(hat:ud'.ownBlock=ud.ownBlock\/ud'.ownBlock=some wr.heap.size) :
 InL W2 bx f0 (w6.setCell ⟨bx,4,none⟩ ud') ur ud' rs zs (ds++[x]):=by
 have hz:=h.size;have hz6:=hg.size;have hnb:∀q,q<W2.heap.size->some q≠ud.ownBlock:=fun q hq e=>by have:=(h.ownD.lt q e.symm).1;omega
 have hnew:∀b,b<wr.heap.size->some b≠ud.ownBlock->some b≠ud'.ownBlock:=fun b hb h1 e=>by
  rcases hat with k | k
  ·exact h1 (by rw[<-k];exact e)
  ·rw[k]at e;injection e with e;omega
 have keep:∀b,b<wr.heap.size->b≠bx->some b≠ud.ownBlock->(w6.setCell ⟨bx,4,none⟩ ud').heap[b]?=wr.heap[b]?:=fun b h1 h2 h3=>(Below.heap_setCell _ _ _ _ h2).trans (hg.block b h1 h3)
 refine⟨hg.os.trans h.os,hg.tape.trans h.tape,hg.output.trans h.output,by rw[Xd];omega,fun q h1 h2=>(keep q oM h2 (hnb q h1)).trans (h.fr q h1 h2),((h.box.of_block (hg.block bx oM (hnb _ hx))).set 4 ud').congr (fun i _=>by by_cases e:i=4<;>simp[e]),Yr h.ownR (fun g e=>keep g (h.ownR.lt g e).2 (by have:=(h.ownR.lt g e).1;omega) (fun e2=>h.ne g e e2.symm)),h.len,fun i hi=>?_,?_,fun g e e2=>?_⟩
 ·obtain⟨a',c',e1,hp⟩:=h.rows i hi
  refine⟨a',c',e1,?_⟩;have hp2:=hp.mono (Q:=fun b=>W2.heap.size<=b/\some b≠ur.ownBlock/\some b≠ud'.ownBlock/\some b≠ud.ownBlock) (fun b hb q=>⟨q.1,q.2.1,hnew b hb q.2.2,q.2.2⟩);exact(hp2.keep (w':=w6.setCell ⟨bx,4,none⟩ ud') (fun b hb q=>keep b hb oM q.2.2.2) (by rw[Xd];omega)).mono (fun b _ q=>⟨q.1,q.2.1,q.2.2.1⟩)
 ·rw[Ys,List.length_append]
  exact ownsRow_setCell_below ho hx _
 ·have hl:=(h.ownR.lt g e).2
  exact hnew g hl (fun e3=>h.ne g e e3.symm) e2.symm
theorem InL.fin(h:InL W2 bx f0 wr ur ud rs zs ds):(∃a c,ur=.slice a zs.length c/\JO wr (fun b=>W2.heap.size<=b) a zs)/\∃a c,ud=.slice a ds.length c/\XW wr (fun b=>W2.heap.size<=b) a ds:=by
 refine⟨?_,?_⟩
 ·rcases Tr h.ownR with⟨e1,e2,_⟩ | ⟨g,c,e1,hg,_⟩
  ·have hz:zs.length=0:=by rw[<-h.len];exact e2
   exact⟨none,0,by rw[e1,hz],fun i hi=>absurd hi oM⟩
  ·refine⟨_,c,by rw[e1,h.len],fun i hi=>?_⟩
   obtain⟨a',c',e3,hp⟩:=h.rows i hi;refine⟨g,0,rfl,hg,a',c',?_,hp.mono (fun b _ q=>q.1)⟩;have:=h.ownR.cells (g:=g) (by rw[e1];rfl) i _ e3;rw[Nat.zero_add];by_cases e4:i=0
   ·subst e4;simpa [Addr.add]using this
   ·simpa [Addr.add,e4]using this
 ·obtain⟨a,c,e,hi⟩:=Xj h.ownD
  exact⟨a,c,e,XW.of_at hi (Nat.le_refl _) (fun b h1 _=>h1)⟩
end
theorem Za7(g m:Nat):(⟨g,0,none⟩:Addr).add m=⟨g,m,none⟩:=by by_cases e:m=0<;>simp[Addr.add,e]
structure LsI(w:World)(V:Nat)(a:Option Addr)(n c:Nat)(xs:List Xi)(wr:World)(u:Value)(k:Nat)(cs:List Value):Prop where
 low:Below w.heap.size w wr
 sz:w.heap.size+2<=wr.heap.size
 f0:wr.cell? ⟨w.heap.size,0,none⟩=some (.int .i64 (V:Int))
 f1:wr.cell? ⟨w.heap.size,1,none⟩=some (.slice a n c)
 own:wr.ownsRow (w.heap.size+1) 102 6 u k cs
 fa:∀i (h:i<xs.length),i<k->TQ wr (fun b=>w.heap.size+2<=b/\some b≠u.ownBlock) (fun j=>cs.getD (i*6+j) (.slice none 0 0)) xs[i] (XB xs i)
theorem LsI.next{w:World}{V:Nat}{a:Option Addr}{n c:Nat}{xs:List Xi}{wr W3 w4:World}{u u':Value}{k:Nat}{cs:List Value}{f:Nat->Value}(h:LsI w V a n c xs wr u k cs)(hkx:k<xs.length)(k3:Below wr.heap.size wr W3)(hf:TQ W3 (fun b=>wr.heap.size<=b) f xs[k] (XB xs k))(hg:W3.grownBy w4 u.ownBlock)(ho:w4.ownsRow (w.heap.size+1) 102 6 u' (k+1) (cs++[f 0,f 1,f 2,f 3,f 4,f 5]))(hat:u'.ownBlock=u.ownBlock\/u'.ownBlock=some W3.heap.size) :
 LsI w V a n c xs w4 u' (k+1) (cs++[f 0,f 1,f 2,f 3,f 4,f 5]):=by
 have hz:=h.sz;have hz3:=k3.size;have hz4:=hg.size;have hwz:=h.low.size;have hul:∀g,u.ownBlock=some g->w.heap.size+1<=g/\g<wr.heap.size:=fun g e=>h.own.lt g e
 have hcl:cs.length=k*6:=h.own.1;have lo:∀q,q<=w.heap.size->w4.heap[q]?=wr.heap[q]?:=fun q hq=>(hg.block q oM (fun e=>by have:=hul q e.symm;omega)).trans (k3.block q oM)
 refine⟨⟨hg.os.trans (k3.os.trans h.low.os),hg.tape.trans (k3.tape.trans h.low.tape),hg.output.trans (k3.output.trans h.low.output),oM,fun q hq=>(lo q oM).trans (h.low.block q hq)⟩,oM,(Xc (lo _ (Nat.le_refl _))).trans h.f0,(Xc (lo _ (Nat.le_refl _))).trans h.f1,ho,fun i hi hik=>?_⟩;have hnew:∀b,b<W3.heap.size->some b≠u.ownBlock->some b≠u'.ownBlock:=fun b hb h1 e=>by
  rcases hat with q | q
  ·exact h1 (by rw[<-q];exact e)
  ·rw[q]at e;injection e with e;omega
 by_cases e:i=k
 ·subst e
  have h2:=hf.mono (Q:=fun b=>(w.heap.size+2<=b/\some b≠u'.ownBlock)/\some b≠u.ownBlock) (fun b hb q=>⟨⟨oM,hnew b hb (fun e=>by have:=hul b e.symm;omega)⟩,fun e=>by have:=hul b e.symm;omega⟩);have h3:=(h2.keep (w':=w4) (fun b hb q=>hg.block b hb q.2) hz4).mono (Q:=fun b=>w.heap.size+2<=b/\some b≠u'.ownBlock) (fun b _ q=>q.1);have eg:∀j,j<6->(cs++[f 0,f 1,f 2,f 3,f 4,f 5]).getD (i*6+j) (.slice none 0 0)=f j:=fun j hj=>by
   rw[List.getD_eq_getElem?_getD,List.getElem?_append_right oM,hcl,Nat.add_sub_cancel_left]
   match j,hj with
   | 0,_=>rfl
   | 1,_=>rfl
   | 2,_=>rfl
   | 3,_=>rfl
   | 4,_=>rfl
   | 5,_=>rfl
  obtain⟨h0,h1,h2',h3',h4,h5⟩:=h3;exact⟨by rw[eg 0 vZ];exact h0,by rw[eg 1 vZ];exact h1,by rw[eg 2 vZ];exact h2',by rw[eg 3 vZ];exact h3',by rw[eg 4 vZ];exact h4,by rw[eg 5 vZ];exact h5⟩
 ·have h1:=h.fa i hi oM
  have h2:=h1.keep (w':=W3) (fun b hb _=>k3.block b hb) hz3;have h2b:=h2.mono (Q:=fun b=>(w.heap.size+2<=b/\some b≠u'.ownBlock)/\some b≠u.ownBlock) (fun b hb q=>⟨⟨q.1,hnew b hb q.2⟩,q.2⟩);have h3:=(h2b.keep (w':=w4) (fun b hb q=>hg.block b hb q.2) hz4).mono (Q:=fun b=>w.heap.size+2<=b/\some b≠u'.ownBlock) (fun b _ q=>q.1);have eg:∀j,j<6->(cs++[f 0,f 1,f 2,f 3,f 4,f 5]).getD (i*6+j) (.slice none 0 0)=cs.getD (i*6+j) (.slice none 0 0):=fun j hj=>by
   rw[List.getD_eq_getElem?_getD,List.getD_eq_getElem?_getD,List.getElem?_append_left oM]
  obtain⟨h0,h1',h2',h3',h4,h5⟩:=h3;exact⟨by rw[eg 0 vZ];exact h0,by rw[eg 1 vZ];exact h1',by rw[eg 2 vZ];exact h2',by rw[eg 3 vZ];exact h3',by rw[eg 4 vZ];exact h4,by rw[eg 5 vZ];exact h5⟩
theorem ZgK{w:World}{L B:Nat}{ad:Addr}{xs:List Int}(h:Xg w L B (some ad) xs):∀(j:Nat)(u:Value),(xs.map (Value.int .i64))[j]?=some u->w.cell? (ad.add j)=some u:=fun j u hj=>by
 have hl:j<xs.length:=by have:=(List.getElem?_eq_some_iff.1 hj).1;simpa using this
 obtain⟨b,o,e,_,hc⟩:=h j hl;injection e with e;subst e;have hu:Value.int .i64 xs[j]=u:=by simpa [hl]using hj
 rw[<-hu,<-hc];by_cases e:j=0<;>simp[Addr.add,e]
theorem VI{V:Nat}{xs:List Xi}(ho:ZZ V xs)(p t:Int):(edgeU xs p t).length<=4000000:=by
 unfold edgeU;split
 ·simp
 ·rename_i x hx
  split
  ·simp
  ·have h1:=Zak (predsFrom xs 0 t) x.phis p (predsFrom xs 0 t).length
   have h2:=Yc t xs 0;have h3:=ho.okf.n2;have h4:=(ho.lens x (List.mem_of_getElem? hx)).2;exact Nat.le_trans h1 (Nat.le_trans (Nat.mul_le_mul (show(predsFrom xs 0 t).length<=1000 by omega) h4) vZ)
theorem Tc{V:Nat}{xs:List Xi}(ho:ZZ V xs)(p:Int):∀l:List Int,(l.flatMap (edgeU xs p)).length<=l.length*4000000
 | []=>sP
 | t::l=>by
  have h1:=Tc ho p l;have h2:=VI ho p t;rw[List.flatMap_cons,List.length_append,List.length_cons];omega
theorem Zee{xs:List Xi}{p:Int}{l:List Int}{j:Nat}(h:j<l.length):(l.take (j+1)).flatMap (edgeU xs p)=(l.take j).flatMap (edgeU xs p)++edgeU xs p l[j]:=by
 rw[List.take_succ_eq_append_getElem h,List.flatMap_append];simp
structure FcA(wr Y:World)(bx:Nat)(X:Xi)(f0:Nat->Value):Prop where
 low:Below wr.heap.size wr Y
 b1:wr.heap.size<=bx
 box:Y.rowIs bx 102 6 f0
 n2:f0 2=.slice none 0 0
 n3:f0 3=.slice none 0 0
 n4:f0 4=.slice none 0 0
 e0:∃a c,f0 0=.slice a X.term.targets.length c/\XW Y (fun b=>wr.heap.size<=b/\b≠bx) a X.term.targets
 e1:∃a c,f0 1=.slice a X.phis.length c/\XW Y (fun b=>wr.heap.size<=b/\b≠bx) a (X.phis.map Ph.dst)
 e5:∃a c,f0 5=.slice a (rdT X.term).length c/\XW Y (fun b=>wr.heap.size<=b/\b≠bx) a (rdT X.term)
def Zjf(vT vP vR:Value)(i:Nat):Value:=if i=0 then vT else if i=1 then vP else if i=5 then vR else .slice none 0 0
structure FcD(u W:World)(o:Option Nat)(I:List (Option Addr × List Int)):Prop where
 s:Below u.heap.size u W
 bx:∀b,o=some b->W.rowIs b 102 6 (fun _=>.slice none 0 0)/\u.heap.size<=b
 il:∀x∈I,XW W (fun b=>u.heap.size<=b/\o≠some b) x.1 x.2
theorem FcD.next{u W W':World}{o:Option Nat}{I:List (Option Addr × List Int)}(h:FcD u W o I)(k:Below W.heap.size W W'):FcD u W' o I :=
 ⟨Xe h.s k,fun b e=>⟨(h.bx b e).1.of_block (k.block _ (h.bx b e).1.lt),(h.bx b e).2⟩,fun x hx=>(h.il x hx).keep (fun b hb _=>k.block b hb) k.size⟩
theorem FcD.add{u W W':World}{o:Option Nat}{I:List (Option Addr × List Int)}{a:Option Addr}{xs:List Int}(h:FcD u W o I)(k:Below W.heap.size W W')(i:Xg W' W.heap.size W'.heap.size a xs):FcD u W' o ((a,xs)::I):=by
 refine⟨(h.next k).s,(h.next k).bx,fun x hx=>?_⟩;rcases List.mem_cons.1 hx with rfl | hx
 ·exact XW.of_at i (Nat.le_refl _) (fun b h1 _=>⟨Nat.le_trans h.s.size h1,fun e=>by have:=(h.bx b e).1.lt;omega⟩)
 ·exact(h.next k).il x hx
theorem FcD.box{u W:World}{I:List (Option Addr × List Int)}(h:FcD u W none I):∃mb,mb=W.heap.size/\FcD u (W.alloc (.cells #[.slice none 0 0,.slice none 0 0,.slice none 0 0,.slice none 0 0,.slice none 0 0,.slice none 0 0] 102)) (some mb) I:=by
 refine⟨_,rfl,Xb h.s _,fun b e=>?_,fun x hx=>((h.il x hx).mono (fun b h1 h2=>⟨h2.1,fun e=>by cases e;omega⟩)).keep (fun b hb _=>Below.heap_alloc _ _ _ hb) sP⟩;cases e;exact⟨World.rowIs_alloc _ _ _ _ (fun i hi=>by match i,hi with | 0,_=>rfl | 1,_=>rfl | 2,_=>rfl | 3,_=>rfl | 4,_=>rfl | 5,_=>rfl),h.s.size⟩
theorem Zim{wr Z:World}{bx:Nat}{X:Xi}{aT aP aR:Option Addr}{cT cP cR:Nat}(h:FcD wr Z (some bx) [(aR,rdT X.term),(aP,X.phis.map Ph.dst),(aT,X.term.targets)]) :
 FcA wr ((((((Z.setCell ⟨bx,0,none⟩ (.slice aT X.term.targets.length cT)).setCell ⟨bx,1,none⟩ (.slice aP X.phis.length cP)).setCell ⟨bx,2,none⟩ (.slice none 0 0)).setCell ⟨bx,3,none⟩ (.slice none 0 0)).setCell ⟨bx,4,none⟩ (.slice none 0 0)).setCell ⟨bx,5,none⟩ (.slice aR (rdT X.term).length cR)) bx X (Zjf (.slice aT X.term.targets.length cT) (.slice aP X.phis.length cP) (.slice aR (rdT X.term).length cR)):=by
 obtain⟨BX,b1⟩:=h.bx bx rfl;have st:∀{W:World}{a:Option Addr}{xs:List Int}(i:Nat)(v:Value),XW W (fun b=>wr.heap.size<=b/\b≠bx) a xs->XW (W.setCell ⟨bx,i,none⟩ v) (fun b=>wr.heap.size<=b/\b≠bx) a xs:=fun i v k=>k.keep (fun b _ q=>Below.heap_setCell _ _ _ _ q.2) sP
 have six:∀x∈[(aR,rdT X.term),(aP,X.phis.map Ph.dst),(aT,X.term.targets)],∀v0 v1 v2 v3 v4 v5,_:=fun x hx v0 v1 v2 v3 v4 v5=>st 5 v5 (st 4 v4 (st 3 v3 (st 2 v2 (st 1 v1 (st 0 v0 ((h.il x hx).mono (fun b _ q=>⟨q.1,fun e=>q.2 (by rw[e])⟩)))))))
 refine⟨((((((h.s.setCell b1 _).setCell b1 _).setCell b1 _).setCell b1 _).setCell b1 _).setCell b1 _),b1,((((((BX.set 0 _).set 1 _).set 2 _).set 3 _).set 4 _).set 5 _).congr (fun i hi=>?_),rfl,rfl,rfl,⟨aT,cT,rfl,six (aT,X.term.targets) sP _ _ _ _ _ _⟩,⟨aP,cP,rfl,six (aP,X.phis.map Ph.dst) sP _ _ _ _ _ _⟩,⟨aR,cR,rfl,six (aR,rdT X.term) sP _ _ _ _ _ _⟩⟩;unfold Zjf
 match i,hi with
 | 0,_=>rfl
 | 1,_=>rfl
 | 2,_=>rfl
 | 3,_=>rfl
 | 4,_=>rfl
 | 5,_=>rfl
def Zas(v0 v1 v2 v3 v4 v5:Value):Nat->Value
 | 0=>v0
 | 1=>v1
 | 2=>v2
 | 3=>v3
 | 4=>v4
 | _=>v5
def Yp(w:World)(a:Option Addr)(xs:List Xi):Prop:=∀i (h:i<xs.length),∃b o us,a=some ⟨b,o,none⟩/\b<w.heap.size/\(∀j,j<6->w.cell? ⟨b,o+i*6+j,none⟩=some (us j))/\TQ w (fun _=>True) us xs[i] (XB xs i)
theorem Yp.keep{w w':World}{a:Option Addr}{xs:List Xi}(h:Yp w a xs)(k:Below w.heap.size w w'):Yp w' a xs:=fun i hi=>by
 obtain⟨b,o,us,e,hb,hc,hf⟩:=h i hi;exact⟨b,o,us,e,Nat.lt_of_lt_of_le hb k.size,fun j hj=>(Xc (k.block b hb)).trans (hc j hj),hf.keep (fun q hq _=>k.block q hq) k.size⟩
def Ju(w:World)(base:Nat)(a:Option Addr)(xs:List Xi):Prop:=∀i (h:i<xs.length),∃b o us,a=some ⟨b,o,none⟩/\(base<=b/\b<w.heap.size)/\(∀j,j<6->w.cell? ⟨b,o+i*6+j,none⟩=some (us j))/\TQ w (fun q=>base<=q) us xs[i] (XB xs i)
theorem Ju.at_{w:World}{base:Nat}{a:Option Addr}{xs:List Xi}(h:Ju w base a xs):Yp w a xs:=fun i hi=>by
 obtain⟨b,o,us,e,hb,hc,hf⟩:=h i hi;exact⟨b,o,us,e,hb.2,hc,hf.mono (fun _ _ _=>trivial)⟩
theorem Ju.keep{w w':World}{base:Nat}{a:Option Addr}{xs:List Xi}(h:Ju w base a xs)(k:∀q,base<=q->q<w.heap.size->w'.heap[q]?=w.heap[q]?)(hz:w.heap.size<=w'.heap.size):Ju w' base a xs:=fun i hi=>by
 obtain⟨b,o,us,e,hb,hc,hf⟩:=h i hi;exact⟨b,o,us,e,⟨hb.1,Nat.lt_of_lt_of_le hb.2 hz⟩,fun j hj=>(Xc (k b hb.1 hb.2)).trans (hc j hj),hf.keep (fun q hq hP=>k q hP hq) hz⟩
theorem LsI.fin{w:World}{V:Nat}{a:Option Addr}{n c:Nat}{xs:List Xi}{wr:World}{u:Value}{cs:List Value}(h:LsI w V a n c xs wr u xs.length cs):∃a' c',u=.slice a' xs.length c'/\Ju wr w.heap.size a' xs:=by
 rcases Tr h.own with⟨e1,e2,_⟩ | ⟨g,c',e1,hg,_⟩
 ·exact⟨none,0,by rw[e1,e2],fun i hi=>absurd hi oM⟩
 ·have hcl:cs.length=xs.length*6:=h.own.1
  refine⟨_,c',e1,fun i hi=>⟨g,0,fun j=>cs.getD (i*6+j) (.slice none 0 0),rfl,⟨by have:=hg.1;omega,hg.2⟩,fun j hj=>?_,(h.fa i hi hi).mono (fun q _ hq=>by have:=hq.1;omega)⟩⟩;have hlt:i*6+j<cs.length:=oM;have:=h.own.cells (g:=g) (by rw[e1];rfl) (i*6+j) (cs[i*6+j]) (List.getElem?_eq_getElem hlt);show wr.cell? ⟨g,0+i*6+j,none⟩=some (cs.getD (i*6+j) (.slice none 0 0));rw[Nat.zero_add,List.getD_eq_getElem?_getD,List.getElem?_eq_getElem hlt];rw[Za7]at this;exact this
end
end Go.Proofs.YthgikffcdgpgiaaGreatDoor
