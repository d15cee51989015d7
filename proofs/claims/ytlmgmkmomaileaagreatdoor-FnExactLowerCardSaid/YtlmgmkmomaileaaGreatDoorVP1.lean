import Derived.Test.YtlmgmkmomaileaaGreatDoorVP0
namespace Go.Proofs.YtlmgmkmomaileaaGreatDoor
structure StI(xs:List Xh)(v:Nat)(td:List Nat)(i:Nat):Prop where
 nd:td.Nodup
 op:∀x∈td,Opn xs v x
 z:0∈td
 dn:∀j (h:j<td.length),j<i->YB xs td[j] v=true\/(barB xs td[j] v≠1/\(barB xs td[j] v=0->∀t∈XV xs td[j],t∈td))
section
variable {xs : List Xh} {v : Nat} {td : List Nat} {i : Nat}
theorem Zfz:StI xs v [0] 0:=⟨sP,fun x hx=>by rw[List.mem_singleton.1 hx];exact Opn.root,sP,fun j _ h=>absurd h oM⟩
theorem StI.go(h:StI xs v td i)(hi:i<td.length)(hd:YB xs td[i] v=true\/(barB xs td[i] v≠1/\(barB xs td[i] v=0->∀t∈XV xs td[i],t∈td))):StI xs v td (i+1) :=
 ⟨h.nd,h.op,h.z,fun j hj hji=>if e:j=i then by subst e;exact hd else h.dn j hj oM⟩
theorem StI.push(h:StI xs v td i)(hi:i<td.length)(hp:YB xs td[i] v=false)(hb:barB xs td[i] v=0){t:Nat}(ht:t∈XV xs td[i])(hn:t ∉ td):StI xs v (td++[t]) i:=by
 refine⟨?_,fun x hx=>?_,by simp[h.z],fun j hj hji=>?_⟩
 ·rw[List.nodup_append]
  exact⟨h.nd,sP,fun a ha b hb'=>by rw[List.mem_singleton.1 hb'];exact fun e=>hn (by rw[<-e];exact ha)⟩
 ·rcases List.mem_append.1 hx with hx | hx
  ·exact h.op x hx
  ·rw[List.mem_singleton.1 hx]
   exact Opn.step (h.op _ (List.getElem_mem hi)) hp hb ht
 ·have hj':j<td.length:=oM
  rw[List.getElem_append_left hj'];rcases h.dn j hj' hji with q | ⟨q1,q2⟩
  ·exact Or.inl q
  ·exact Or.inr ⟨q1,fun e u hu=>List.mem_append_left _ (q2 e u hu)⟩
theorem StI.none(h:StI xs v td i)(hi:td.length<=i):¬Bad xs v:=by
 rintro⟨b,hop,h1,h2⟩;have hin:∀b,Opn xs v b->b∈td:=fun b hop=>by
  induction hop with
  | root=>exact h.z
  | step _ q1 q2 q3 ih =>
   obtain⟨j,hj,rfl⟩:=List.getElem_of_mem ih;rcases h.dn j hj oM with q | q
   ·rw[q]at q1;cases q1
   ·exact q.2 q2 _ q3
 obtain⟨j,hj,rfl⟩:=List.getElem_of_mem (hin b hop);rcases h.dn j hj oM with q | q
 ·rw[q]at h1;cases h1
 ·exact q.1 h2
theorem StI.hit(h:StI xs v td i)(hi:i<td.length)(hp:YB xs td[i] v=false)(hb:barB xs td[i] v=1):Bad xs v:=⟨_,h.op _ (List.getElem_mem hi),hp,hb⟩
theorem StI.lt(h:StI xs v td i)(ho:OkF xs):∀x∈td,x<xs.length:=fun x hx=>(h.op x hx).lt ho
end
end Go.Proofs.YtlmgmkmomaileaaGreatDoor
namespace Go.Proofs.YtlmgmkmomaileaaGreatDoor
open Go.RowKit
theorem Zf8{w Y w3 W0:World}{V:Nat}{a:Option Addr}{n c Kw:Nat}{xs:List Xh}{Gi LB Go:Nat}{go:Nat->Nat}{WO:Nat->Nat->Nat}(h:FlA w Y V a n c Kw xs Gi LB Go go WO){Gd:Nat}{gd:Nat->Nat}(hGd:Y.heap.size<=Gd)(hb3:Below Y.heap.size Y w3)(hs3:XB w3 Gd n Kw gd (fun _=>Kw) (fun _ _=>0))(hgd:∀i,i<n->Y.heap.size<=gd i)
 {bS gS:Nat} (hbS:w3.heap.size+2<=bS) (hgS:w3.heap.size+2<=gS) (hb6:Below (w3.heap.size+2) ((w3.alloc (.cells #[.slice (some ⟨Gd,0,none⟩) n n] 132)).alloc (.cells (madeCells #[.slice none 0 0] n) 25)) W0) (hsea:YN W0 bS gS W0.heap.size ((n+63) / 64) a n c (fun _=>0) (.slice none 0 0) []) :
 FlS ⟨w,V,n,c,Kw,(n+63) / 64,a,xs,Gi,LB,Go,w3.heap.size,Gd,w3.heap.size+1,bS,gS,Y.heap.size,w3.heap.size,W0.heap.size,go,gd,WO⟩/\FlK ⟨w,V,n,c,Kw,(n+63) / 64,a,xs,Gi,LB,Go,w3.heap.size,Gd,w3.heap.size+1,bS,gS,Y.heap.size,w3.heap.size,W0.heap.size,go,gd,WO⟩ W0 0 ⟨fun _=>0,fun _=>0,fun _ _=>0,fun _ _=>0,fun _=>.slice none 0 0,fun _=>0,.slice none 0 0,[]⟩:=by
 have hz3:=hb3.size;have hw5:((w3.alloc (.cells #[.slice (some ⟨Gd,0,none⟩) n n] 132)).alloc (.cells (madeCells #[.slice none 0 0] n) 25)).heap.size=w3.heap.size+2:=sP;have h35:Below w3.heap.size w3 ((w3.alloc (.cells #[.slice (some ⟨Gd,0,none⟩) n n] 132)).alloc (.cells (madeCells #[.slice none 0 0] n) 25)):=Xb (Xb (Below.refl _ _) _) _;have hz6:w3.heap.size+2<=W0.heap.size:=by have:=hb6.size;omega
 have hB36:Below w3.heap.size w3 W0:=h35.trans (hb6.mono oM);have hBY:Below Y.heap.size Y W0:=Xd hb3 hB36;have hwY:=h.low.size;have gi:=h.gi.lt;have gl:=World.block_lt_of_cell? Y _ h.l0;have gg:=h.out.row.lt;have b1:=h.b1;have b2:=h.b2;have b3:=h.b3;have hnr:((w3.alloc (.cells #[.slice (some ⟨Gd,0,none⟩) n n] 132)).alloc (.cells (madeCells #[.slice none 0 0] n) 25)).rowIs (w3.heap.size+1) 25 n (fun _=>.slice none 0 0):=by
  have:=World.rowIs_made (w3.alloc (.cells #[.slice (some ⟨Gd,0,none⟩) n n] 132)) (.slice none 0 0) n 25;rwa[World.size_alloc]at this
 have cY:∀p:Addr,p.block<Y.heap.size->W0.cell? p=Y.cell? p:=fun p hp=>hBY.cell hp
 have gl':LB<Y.heap.size:=gl;refine⟨⟨⟨b1,gi⟩,⟨b2,gl⟩,⟨b3,gg⟩,fun i hi=>⟨h.b4 i hi,(h.out.set i hi).lt⟩,h.d1,h.d2,h.d3,h.d4,⟨hGd,hs3.row.lt⟩,fun i hi=>⟨hgd i hi,(hs3.set i hi).lt⟩,rfl,rfl,⟨hbS,hsea.lb⟩,⟨hgS,hsea.lg⟩,hsea.ne⟩,?_⟩;refine⟨Xd h.low hBY,Nat.le_refl _,(cY _ (by show w.heap.size<_;omega)).trans h.f0,(cY _ (by show w.heap.size<_;omega)).trans h.f1,(cY _ (by show w.heap.size+1<_;omega)).trans h.r0,(cY _ (by show w.heap.size+1<_;omega)).trans h.r1,fun q=>(hBY.frozen (p:=⟨w.heap.size+1,q,none⟩) (by show w.heap.size+1<_;omega)).trans (h.rz q),(cY _ gl').trans h.l0,(cY _ gl').trans h.l1,(hb6.cell (p:=⟨w3.heap.size,0,none⟩) (by show w3.heap.size<_;omega)).trans (by simp[go_sem]),h.out.keep hBY,(h.gi.of_block (hBY.block _ gi)).congr (fun i _=>sP),fun i hi=>absurd hi oM,fun i j hi=>absurd hi oM,fun i hi=>absurd hi oM,hs3.keep hB36,(hnr.of_block (hb6.block _ oM)).congr (fun i _=>sP),fun i hi=>absurd hi oM,hsea,fun i hi=>absurd hi oM⟩
end Go.Proofs.YtlmgmkmomaileaaGreatDoor
namespace Go.Proofs.YtlmgmkmomaileaaGreatDoor
open Go.RowKit Go.Shelf
structure FlI(w4:World)(gB gD Kw CB:Nat)(W0:Nat->Nat)(pre:List Pl)(V:World):Prop where
 os:V.os=w4.os
 tape:V.tape=w4.tape
 output:V.output=w4.output
 size:w4.heap.size<=V.heap.size
 fr:∀q,q<w4.heap.size->q≠gB->q≠gD->V.heap[q]?=w4.heap[q]?
 ws:WsAt V gB Kw CB ((pre.map Pl.dat).foldl T6 W0)
 wd:WsAt V gD Kw Kw ((pre.map Pl.dat).foldl TB (fun _=>0))
theorem FlI.own{w4:World}{gB gD Kw CB:Nat}{W0:Nat->Nat}(hB:gB<w4.heap.size)(hD:gD<w4.heap.size):OwnFrom w4.heap.size (FlI w4 gB gD Kw CB W0):=fun pre A V row h k q=>by
 have hz:=h.size;have hbl:∀b,b<w4.heap.size->V.heap[b]?=A.heap[b]?:=fun b hb=>k.block b oM (fun e=>by have:=(q b e.symm).1;omega)
 exact⟨k.os.trans h.os,k.tape.trans h.tape,k.output.trans h.output,Nat.le_trans hz k.size,fun b h1 h2 h3=>(hbl b h1).trans (h.fr b h1 h2 h3),h.ws.of_block (hbl gB hB),h.wd.of_block (hbl gD hD)⟩
theorem FlI.below{w4:World}{gB gD Kw CB:Nat}{W0:Nat->Nat}(hB:gB<w4.heap.size)(hD:gD<w4.heap.size){pre:List Pl}{V V':World}(h:FlI w4 gB gD Kw CB W0 pre V)(k:Below V.heap.size V V'):FlI w4 gB gD Kw CB W0 pre V':=XE (FlI.own hB hD) h k
theorem ZhD(l:List (Nat × List Int × List Int)){W:Nat->Nat}(h:XA W):XA (l.foldl T6 W):=by
 induction l generalizing W with
 | nil=>exact h
 | cons q l ih=>exact ih (Zs _ (J2 _ h))
theorem FlI.next{w4:World}{gB gD Kw CB:Nat}{W0:Nat->Nat}{pre:List Pl}{V V1 V2 V3:World}(h:FlI w4 gB gD Kw CB W0 pre V)(hB:gB<w4.heap.size)(hne:gB≠gD){p:Pl}
 (k1:V.grownBy V1 (some gB)) (k2:V1.grownBy V2 (some gB)) (k3:V2.grownBy V3 (some gD)) (hw:WsAt V2 gB Kw CB (T6 ((pre.map Pl.dat).foldl T6 W0) p.dat)) (hd:WsAt V3 gD Kw Kw (TB ((pre.map Pl.dat).foldl TB (fun _=>0)) p.dat)):FlI w4 gB gD Kw CB W0 (pre++[p]) V3:=by
 have hz:=h.size;have z1:=k1.size;have z2:=k2.size;have z3:=k3.size;refine⟨k3.os.trans (k2.os.trans (k1.os.trans h.os)),k3.tape.trans (k2.tape.trans (k1.tape.trans h.tape)),k3.output.trans (k2.output.trans (k1.output.trans h.output)),oM,fun q q1 q2 q3=>?_,?_,?_⟩
 ·exact(k3.block q oM (fun e=>q3 (by injection e))).trans ((k2.block q oM (fun e=>q2 (by injection e))).trans ((k1.block q oM (fun e=>q2 (by injection e))).trans (h.fr q q1 q2 q3)))
 ·rw[List.map_append,List.foldl_append]
  exact hw.of_block (k3.block gB oM (fun e=>hne (by injection e)))
 ·rw[List.map_append,List.foldl_append]
  exact hd
theorem WF{A V:World}{row:Option Nat}{n₀ B:Nat}{a:Option Addr}{xs:List Int}(h:Xf A n₀ A.heap.size a xs)(k:A.grownBy V row)(q:∀r,row=some r->B<=r/\∃o:Obj,A.heap[r]?=some o/\o.isCells=false):Xf V n₀ V.heap.size a xs:=fun i hi=>by
 obtain⟨b,o,e,hb,hc⟩:=h i hi;refine⟨b,o,e,⟨hb.1,Nat.lt_of_lt_of_le hb.2 k.size⟩,(Xc (k.block b hb.2 (fun e2=>?_))).trans hc⟩;obtain⟨ob,h1,h2⟩:=Yz hc;obtain⟨_,o2,h3,h4⟩:=q b e2.symm;rw[show A.heap[b]?=some ob from h1]at h3;injection h3 with h3;subst h3;rw[h2]at h4;cases h4
theorem VX(n n₀:Nat)(Pd:Nat × List Int × List Int->Prop):OwnFrom n (ZhA n₀ Pd):=fun _ _ _ _ h k q=>⟨h.1,WF h.2.1 k q,WF h.2.2 k q⟩
theorem VM{n₀:Nat}{Pd:Nat × List Int × List Int->Prop}{p:Pl}{V V':World}(h:ZhA n₀ Pd p V)(k:Below V.heap.size V V'):ZhA n₀ Pd p V':=XE (VX 0 n₀ Pd) h k
theorem YF{A V:World}{g n₀:Nat}{a:Option Addr}{xs:List Int}(h:Xf A n₀ A.heap.size a xs)(k:A.grownBy V (some g))(hg:g<n₀):Xf V n₀ V.heap.size a xs:=fun i hi=>by
 obtain⟨b,o,e,hb,hc⟩:=h i hi;exact⟨b,o,e,⟨hb.1,Nat.lt_of_lt_of_le hb.2 k.size⟩,(Xc (k.block b hb.2 (fun e2=>by injection e2 with e2;omega))).trans hc⟩
structure PBx(n₀ bp:Nat)(p:Pl)(V:World):Prop where
 ge:n₀<=bp
 c0:V.cell? ⟨bp,0,none⟩=some (.slice p.ua p.us.length p.uc)
 c1:V.cell? ⟨bp,1,none⟩=some (.slice p.da p.ds.length p.dc)
theorem PBx.own{n n₀ bp:Nat}{p:Pl}:OwnFrom n (fun (_:Unit) V=>PBx n₀ bp p V):=fun _ A V row h k q=>by
 have hbl:V.heap[bp]?=A.heap[bp]?:=by
  obtain⟨o,h1,h2⟩:=Yz h.c0;refine k.block bp (Array.getElem?_eq_some_iff.1 h1).1 (fun e=>?_);obtain⟨_,o2,h3,h4⟩:=q bp e.symm;rw[show A.heap[bp]?=some o from h1]at h3;injection h3 with h3;subst h3;rw[h2]at h4;cases h4
 exact⟨h.ge,(Xc hbl).trans h.c0,(Xc hbl).trans h.c1⟩
theorem Zz{n₀:Nat}{Ms:Nat->Prop}{V V':World}{g:Nat}(k:V.grownBy V' (some g))(hg:Ms g)(hn:n₀<=V.heap.size):Zi n₀ Ms V V' :=
 ⟨k.size,fun i hi hm=>k.block i oM (fun e=>hm (by injection e with e;rw[e];exact hg)),fun i o hm h1 _=>(k.block i (Array.getElem?_eq_some_iff.1 h1).1 (fun e=>hm (by injection e with e;rw[e];exact hg))).trans h1⟩
theorem ZG{V V':World}{g:Nat}(k:V.grownBy V' (some g))(hg:∃o:Obj,V.heap[g]?=some o/\o.isCells=true):KeepsOthers V V' :=
 KeepsOthers.of_grownBy k (fun j o e h=>by
  obtain⟨o2,h1,h2⟩:=hg;injection e with e;subst e;rw[h1]at h;injection h with h;rw[<-h];exact h2)
theorem WsAt.obj{w:World}{g K C:Nat}{W:Nat->Nat}(h:WsAt w g K C W):∃o:Obj,w.heap[g]?=some o/\o.isCells=true:=by
 obtain⟨_,T,c,h1,_⟩:=h;exact⟨_,h1,rfl⟩
theorem Zfr{wr W:World}{B D:Nat}{ds:List Nat}(h:T2 wr B ds)(hB:B<=wr.heap.size)(hD:wr.heap.size<=D)(hK:W.heap[D]?=some (.deferred (some [])))(hb:∀k,B<=k->wr.heap[k]?=some (.deferred (some []))->W.heap[k]?=wr.heap[k]?):T2 W B (D::ds):=by
 have hl:∀k∈ds,k<wr.heap.size:=fun k hk=>(Array.getElem?_eq_some_iff.1 (h.obj k hk)).1
 refine⟨List.nodup_cons.2 ⟨fun k=>by have:=hl D k;omega,h.nd⟩,fun k hk=>?_,fun k hk=>?_⟩
 ·rcases List.mem_cons.1 hk with rfl | hk
  ·omega
  ·exact h.ge k hk
 ·rcases List.mem_cons.1 hk with rfl | hk
  ·exact hK
  ·exact(hb k (h.ge k hk) (h.obj k hk)).trans (h.obj k hk)
def PdV(V:Nat)(q:Nat × List Int × List Int):Prop:=(∀v∈q.2.1,0<=v/\v<V)/\(∀v∈q.2.2,0<=v/\v<V)/\q.2.1.length<=4000/\q.2.2.length<=4000
theorem ZeY{V:Nat}{xs:List Xh}(ho:Jd V xs){x:Xh}(hx:x∈xs):∀q∈plL x,PdV V q:=fun q hq=>by
 unfold plL at hq;have hT:(rdT x.term).length<=1:=by unfold rdT;split<;>simp
 rcases List.mem_cons.1 hq with rfl | hq
 ·exact⟨ho.rdt x hx,fun v hv=>absurd hv List.not_mem_nil,by show(rdT x.term).length<=_;omega,sP⟩
 ·rcases List.mem_append.1 hq with hq | hq
  ·obtain⟨j,_,rfl⟩:=List.mem_map.1 hq
   have h1:=VV x.instrs[j];have h2:(writesI x.instrs[j]).length<=1:=by unfold writesI;split<;>simp
   exact⟨ho.rdi x hx _ (List.getElem_mem _),ho.wri x hx _ (List.getElem_mem _),by show(rdI x.instrs[j]).length<=_;omega,by show(writesI x.instrs[j]).length<=_;omega⟩
  ·rw[List.mem_singleton.1 hq]
   refine⟨fun v hv=>absurd hv List.not_mem_nil,fun v hv=>?_,sP,?_⟩
   ·obtain⟨p,hp,rfl⟩:=List.mem_map.1 hv
    exact ho.phd x hx p hp
   ·show(x.phis.map Ph.dst).length<=_
    rw[List.length_map];exact(ho.lens x hx).2
structure FlR(w w':World)(n Kw:Nat)(xs:List Xh)(Gi Go:Nat)(gi go ci:Nat->Nat)(WI WX:Nat->Nat->Nat):Prop where
 low:Below w.heap.size w w'
 si:XB w' Gi n Kw gi ci WI
 so:XB w' Go n Kw go (fun _=>Kw) WX
 wi:XX WI
 wx:XX WX
 b1:w.heap.size<=Gi/\w.heap.size<=Go
 b2:∀i,i<n->w.heap.size<=gi i/\w.heap.size<=go i
 inn:∃(I T W0:Nat->Nat->Nat)(ord:List Nat),(∀i (h:i<xs.length),I i=inW xs[i] (W0 i))/\(∀i (h:i<xs.length),T i=dfW xs[i])/\(∀b,b<xs.length->∀v,Xg (W0 b) v=true↔(b,v)∈VP xs xs.length)/\(∀b,b<xs.length->b∈ord)/\(∀b,b<n->∀x,x<64*Kw->(Xg (WI b) x=true↔Sp I T (·∈ord) (XV xs) b x))/\∀b,b<n->∀x,(Xg (WX b) x=true↔Xg (W0 b) x=true\/∃t∈XV xs b,Xg (WI t) x=true)
end Go.Proofs.YtlmgmkmomaileaaGreatDoor
namespace Go.Proofs.YtlmgmkmomaileaaGreatDoor
open Go.RowKit Go.Shelf
theorem Y6{w w':World}{base e s:Nat}{v:Value}{n:Nat}{xs:List Value}(h:w.ownsRow base e s v n xs)(hb:∀g,v.ownBlock=some g->w'.heap[g]?=w.heap[g]?):w'.ownsRow base e s v n xs:=by
 obtain⟨hl,h | ⟨g,cap,cur,rfl,hg,hh,hc,h1,hs,ht⟩⟩:=h
 ·exact⟨hl,Or.inl h⟩
 ·exact⟨hl,Or.inr ⟨g,cap,cur,rfl,hg,(hb g rfl).trans hh,hc,h1,hs,ht⟩⟩
theorem Zfn{w:World}{base e s:Nat}{v:Value}{n:Nat}{xs:List Value}(h:w.ownsRow base e s v n xs){g:Nat}(hv:v.ownBlock=some g):∃o:Obj,w.heap[g]?=some o/\o.isCells=true:=by
 obtain⟨_,h | ⟨g2,cap,cur,rfl,_,hh,_⟩⟩:=h
 ·rw[h.1]at hv;cases hv
 ·have e:g2=g:=by simpa [Value.ownBlock]using hv
  subst e;exact⟨_,hh,rfl⟩
theorem YN.same{w w':World}{bS gS BL K:Nat}{ab:Option Addr}{nb cb:Nat}{W:Nat->Nat}{v:Value}{L:List Nat}(h:YN w bS gS BL K ab nb cb W v L)(hb:w'.heap[bS]?=w.heap[bS]?)(hg:w'.heap[gS]?=w.heap[gS]?)(ho:∀g,v.ownBlock=some g->w'.heap[g]?=w.heap[g]?)(hz:w.heap.size<=w'.heap.size):YN w' bS gS BL K ab nb cb W v L:=by
 have ce:∀q,w'.cell? ⟨bS,q,none⟩=w.cell? ⟨bS,q,none⟩:=fun q=>World.cell?_of_block hb
 exact⟨(ce 0).trans h.c0,(ce 1).trans h.c1,(ce 2).trans h.c2,fun q=>(World.frozen?_of_block hb).trans (h.thaw q),h.row.of_block hg,Y6 h.own ho,h.lb,h.lg,h.ne,Nat.le_trans h.sz hz⟩
section
variable {p : UF} {wr w4 W w5 : World} {k : Nat} {d : FlD} {gB CB : Nat} {ps : List Pl} {u5 : Value}
theorem Zdo(hF4:∀q,q<wr.heap.size->q≠p.Gi->w4.heap[q]?=wr.heap[q]?)(hz4:wr.heap.size<=w4.heap.size)(hgB:wr.heap.size<=gB)(hI:FlI w4 gB (p.gd k) p.Kw CB (p.WO k) ps W)(hb5:Below W.heap.size W w5) :
 ∀q,q<wr.heap.size->q≠p.Gi->q≠p.gd k->q≠p.Gn->(w5.setCell ⟨p.Gn,k,none⟩ u5).heap[q]?=wr.heap[q]?:=fun q h1 h2 h3 h4=>by
 have:=hI.size;exact(Below.heap_setCell _ _ _ _ h4).trans ((hb5.block q oM).trans ((hI.fr q oM oM h3).trans (hF4 q h1 h2)))
theorem Zfv(h:FlK p wr k d)(s:FlS p)(hk:k<p.n)(hF4:∀q,q<wr.heap.size->q≠p.Gi->w4.heap[q]?=wr.heap[q]?)(hz4:wr.heap.size<=w4.heap.size)(hgB:wr.heap.size<=gB)(hI:FlI w4 gB (p.gd k) p.Kw CB (p.WO k) ps W)(hb5:Below W.heap.size W w5) :
 YN (w5.setCell ⟨p.Gn,k,none⟩ u5) p.bS p.gS p.M p.K2 p.a p.n p.c d.Ws d.vS d.Lf:=by
 have hz:=h.sz;have fr:=Zdo (u5:=u5) hF4 hz4 hgB hI hb5;have a1:=s.a1;have a5:=s.a5;have a6:=s.a6 k hk;have a8:=s.a8;have a9:=s.a9;have a10:=s.a10;have hz1:=hI.size;have hz5:=hb5.size;refine h.sea.same (fr _ oM oM oM oM) (fr _ oM oM oM oM) (fun g e=>?_) (by rw[Xe];omega);have:=h.sea.own.lt g e;exact fr g oM oM oM oM
theorem FlK.round{w7:World}{X:Xh}{D:Nat}{ds:List Nat}{a5:Option Addr}{c5:Nat}{v':Value}(h:FlK p wr k d)(s:FlS p)(hq:FlQ p k d)(hm:T2 wr p.M ds)(hk:k<p.n)(hkx:k<p.xs.length)(ht:∀b,b<p.n->∀t∈XV p.xs b,t<p.n)
 (hF4:∀q,q<wr.heap.size->q≠p.Gi->w4.heap[q]?=wr.heap[q]?) (hE4:w4.os=wr.os/\w4.tape=wr.tape/\w4.output=wr.output) (hz4:wr.heap.size<=w4.heap.size) (hgB:wr.heap.size<=gB) (hgB4:gB<w4.heap.size)
 (hGi:w4.rowIs p.Gi 93 p.n (fun i=>if i=k then .slice (some ⟨gB,0,none⟩) p.Kw CB else if i<k then .slice (some ⟨d.gi i,0,none⟩) p.Kw (d.ci i)else .slice none 0 0))
 (hI:FlI w4 gB (p.gd k) p.Kw CB (p.WO k) ps W) (hS:ps.map Pl.dat=plL X) (hX:X=p.xs[k]) (hD:w4.heap.size<=D) (hKD:W.heap[D]?=some (.deferred (some [])))
 (hb5:Below W.heap.size W w5) (hi5:Xf w5 W.heap.size w5.heap.size a5 X.term.targets)
 (hf:Uw (w5.setCell ⟨p.Gn,k,none⟩ (.slice a5 X.term.targets.length c5)) w7 p.bS p.gS d.vS v') (hs:YN w7 p.bS p.gS p.M p.K2 p.a p.n p.c (dfsV (XV p.xs) p.n k (d.Ws,d.Lf)).1 v' (dfsV (XV p.xs) p.n k (d.Ws,d.Lf)).2) :
 ∃d',FlK p w7 (k+1) d'/\FlQ p (k+1) d'/\T2 w7 p.M (D::ds):=by
 have hz:=h.sz;have fr:=Zdo (u5:=.slice a5 X.term.targets.length c5) hF4 hz4 hgB hI hb5;have a1:=s.a1;have a5':=s.a5;have a6:=s.a6 k hk;have a8:=s.a8;have a9:=s.a9;have a10:=s.a10;have hz1:=hI.size;have hz5:=hb5.size;have hz6:=hf.size;rw[Xe]at hz6;have hvl:∀g,d.vS.ownBlock=some g->p.M<=g/\g<wr.heap.size:=fun g e=>h.sea.own.lt g e
 have hvo:∀g,v'.ownBlock=some g->d.vS.ownBlock=some g\/w5.heap.size<=g:=fun g e=>by
  rcases hf.own with q | q
  ·exact Or.inl (by rw[<-q];exact e)
  ·have:=q g e;rw[Xe]at this;exact Or.inr this
 have hDl:D<W.heap.size:=(Array.getElem?_eq_some_iff.1 hKD).1;have up:∀q,wr.heap.size<=q->q<w5.heap.size->w7.heap[q]?=w5.heap[q]?:=fun q h1 h2=>(hf.block q (by rw[Xe];exact h2) oM oM (fun e=>by have:=hvl q e.symm;omega)).trans (Below.heap_setCell _ _ _ _ (by show q≠p.Gn;omega))
 have lo:∀q,q<wr.heap.size->q≠p.Gn->q≠p.bS->q≠p.gS->some q≠d.vS.ownBlock->w7.heap[q]?=W.heap[q]?:=fun q h1 h2 h3 h4 h5=>(hf.block q (by rw[Xe];omega) h3 h4 h5).trans ((Below.heap_setCell _ _ _ _ h2).trans (hb5.block q oM))
 have hown:∀q,q<p.M->some q≠d.vS.ownBlock:=fun q hq e=>by have:=hvl q e.symm;omega
 have hfr:∀q,q<wr.heap.size->q≠p.Gi->q≠p.gd k->q≠p.Gn->q≠p.bS->q≠p.gS->some q≠d.vS.ownBlock->w7.heap[q]?=wr.heap[q]?:=fun q h1 h2 h3 h4 h5 h6 h7=>(hf.block q (by rw[Xe];omega) h5 h6 h7).trans (fr q h1 h2 h3 h4)
 have hwI:(ps.map Pl.dat).foldl T6 (p.WO k)=inW p.xs[k] (p.WO k):=by rw[hS,<-hX];rfl
 have hwD:(ps.map Pl.dat).foldl TB (fun _=>0)=dfW p.xs[k]:=by rw[hS,<-hX];rfl
 have hIw:WsAt w7 gB p.Kw CB (inW p.xs[k] (p.WO k)):=by
  rw[<-hwI];exact hI.ws.of_block ((up gB hgB oM).trans (hb5.block gB oM))
 have hDw:WsAt w7 (p.gd k) p.Kw p.Kw (dfW p.xs[k]):=by
  rw[<-hwD];exact hI.wd.of_block (lo _ oM oM oM oM (hown _ oM))
 have hGi7:=(hGi.of_block (hI.fr p.Gi oM oM oM)).of_block (lo p.Gi oM oM oM oM (hown _ oM));have hGn5:w5.rowIs p.Gn 25 p.n (fun i=>if i<k then d.nx i else .slice none 0 0):=by
  refine((h.nxr.of_block (hF4 p.Gn oM oM)).of_block (hI.fr p.Gn oM oM oM)).of_block (hb5.block p.Gn oM)
 have hGn7:=(hGn5.set k (.slice a5 X.term.targets.length c5)).of_block (hf.block p.Gn (by rw[Xe];omega) oM oM (hown _ oM));have htg:tgI p.xs k=X.term.targets:=by rw[UG hkx,hX]
 refine⟨_,h.next s hk (gB:=gB) (CB:=CB) (I':=inW p.xs[k] (p.WO k)) (D':=dfW p.xs[k]) (nk:=.slice a5 X.term.targets.length c5) (v':=v') (Ws':=(dfsV (XV p.xs) p.n k (d.Ws,d.Lf)).1) (Lf':=(dfsV (XV p.xs) p.n k (d.Ws,d.Lf)).2) (hf.os.trans (hb5.os.trans (hI.os.trans hE4.1))) (hf.tape.trans (hb5.tape.trans (hI.tape.trans hE4.2.1))) (hf.output.trans (hb5.output.trans (hI.output.trans hE4.2.2))) oM hfr hgB hIw hGi7 hDw hGn7 ⟨a5,c5,by rw[htg],?_⟩ hs ?_ ?_,hq.next hk ht _ _ _ _ hkx rfl rfl,Zfr hm hz oM ?_ ?_⟩
 ·rw[htg]
  intro i hi;obtain⟨b,o,e,hb,hc⟩:=hi5 i hi;refine⟨b,o,e,⟨⟨oM,oM,fun e2=>?_⟩,oM⟩,(Xc (up b oM hb.2)).trans hc⟩;rcases hvo b e2.symm with q | q
  ·have:=hvl b q;omega
  ·omega
 ·rcases hf.own with q | q
  ·exact Or.inl q
  ·exact Or.inr (fun g e=>by have:=q g e;rw[Xe]at this;omega)
 ·intro e
  rcases hvo gB e.symm with q | q
  ·have:=hvl gB q;omega
  ·omega
 ·exact(up D oM oM).trans ((hb5.block D hDl).trans hKD)
 ·intro q h1 h2
  have hql:q<wr.heap.size:=(Array.getElem?_eq_some_iff.1 h2).1;refine hfr q hql oM oM oM oM oM (fun e=>?_);obtain⟨o,h3,h4⟩:=Zfn h.sea.own e.symm;rw[h2]at h3;injection h3 with h3;rw[<-h3]at h4;cases h4
end
end Go.Proofs.YtlmgmkmomaileaaGreatDoor
namespace Go.Proofs.YtlmgmkmomaileaaGreatDoor
open Go.RowKit
structure Tb(W1:World)(G:Nat)(wr:World)(u:Value)(l:List Int):Prop where
 os:wr.os=W1.os
 tape:wr.tape=W1.tape
 output:wr.output=W1.output
 size:W1.heap.size<=wr.heap.size
 fr:∀q,q<W1.heap.size->q≠G->wr.heap[q]?=W1.heap[q]?
 own:wr.ownsRow G 2 1 u l.length (l.map (Value.int .i64))
 here:∀g,u.ownBlock=some g->g=G\/W1.heap.size<=g
section
variable {W1 wr w2 : World} {G : Nat} {u u' : Value} {l : List Int}
theorem Tb.start(h:W1.ownsRow G 2 1 u 0 [])(hu:∀g,u.ownBlock=some g->g=G):Tb W1 G W1 u []:=⟨rfl,rfl,rfl,Nat.le_refl _,fun _ _ _=>rfl,h,fun g e=>Or.inl (hu g e)⟩
theorem Tb.push{x:Int}(h:Tb W1 G wr u l)(hg:wr.grownBy w2 u.ownBlock)(ho:w2.ownsRow G 2 1 u' (l.length+1) (l.map (Value.int .i64)++[.int .i64 x]))(hat:u'.ownBlock=u.ownBlock\/u'.ownBlock=some wr.heap.size):Tb W1 G w2 u' (l++[x]):=by
 have hz:=h.size;refine⟨hg.os.trans h.os,hg.tape.trans h.tape,hg.output.trans h.output,Nat.le_trans hz hg.size,fun q h1 h2=>(hg.block q oM (fun e=>?_)).trans (h.fr q h1 h2),?_,fun g e=>?_⟩
 ·rcases h.here q e.symm with k | k
  ·exact h2 k
  ·omega
 ·rw[Yo,List.length_append]
  exact ho
 ·rcases hat with k | k
  ·exact h.here g (by rw[<-k];exact e)
  ·rw[k]at e
   injection e with e;exact Or.inr oM
theorem Tb.below(h:Tb W1 G wr u l)(k:Below wr.heap.size wr w2):Tb W1 G w2 u l :=
 ⟨k.os.trans h.os,k.tape.trans h.tape,k.output.trans h.output,Nat.le_trans h.size k.size,fun q h1 h2=>(k.block q (Nat.lt_of_lt_of_le h1 h.size)).trans (h.fr q h1 h2),Y6 h.own (fun g e=>k.block g (h.own.lt g e).2),h.here⟩
theorem Tb.alloc(h:Tb W1 G wr u l)(o:Obj):Tb W1 G (wr.alloc o) u l:=h.below (Xb (Below.refl _ _) o)
theorem Tb.cell(h:Tb W1 G wr u l){b o:Nat}{v:Value}(hb:b≠G)(hc:W1.cell? ⟨b,o,none⟩=some v):wr.cell? ⟨b,o,none⟩=some v:=(Xc (h.fr b (World.block_lt_of_cell? W1 _ hc) hb)).trans hc
end
end Go.Proofs.YtlmgmkmomaileaaGreatDoor
