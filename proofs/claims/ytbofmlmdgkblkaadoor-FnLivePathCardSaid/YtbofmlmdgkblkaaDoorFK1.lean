import Derived.Test.YtbofmlmdgkblkaaDoorVP0
namespace Go.Proofs.YtbofmlmdgkblkaaDoor
open Go.RowKit
theorem Zdz{w Y w3 W0:World}{V:Nat}{a:Option Addr}{n c Kw:Nat}{xs:List Xg}{Gi LB Go:Nat}{go:Nat->Nat}{WO:Nat->Nat->Nat}(h:FlA w Y V a n c Kw xs Gi LB Go go WO){Gd:Nat}{gd:Nat->Nat}(hGd:Y.heap.size<=Gd)(hb3:Below Y.heap.size Y w3)(hs3:XI w3 Gd n Kw gd (fun _=>Kw) (fun _ _=>0))(hgd:∀i,i<n->Y.heap.size<=gd i)
 {bS gS:Nat} (hbS:w3.heap.size+2<=bS) (hgS:w3.heap.size+2<=gS) (hb6:Below (w3.heap.size+2) ((w3.alloc (.cells #[.slice (some ⟨Gd,0,none⟩) n n] 56)).alloc (.cells (madeCells #[.slice none 0 0] n) 40)) W0) (hsea:YQ W0 bS gS W0.heap.size ((n+63) / 64) a n c (fun _=>0) (.slice none 0 0) []) :
 FlS ⟨w,V,n,c,Kw,(n+63) / 64,a,xs,Gi,LB,Go,w3.heap.size,Gd,w3.heap.size+1,bS,gS,Y.heap.size,w3.heap.size,W0.heap.size,go,gd,WO⟩/\FlK ⟨w,V,n,c,Kw,(n+63) / 64,a,xs,Gi,LB,Go,w3.heap.size,Gd,w3.heap.size+1,bS,gS,Y.heap.size,w3.heap.size,W0.heap.size,go,gd,WO⟩ W0 0 ⟨fun _=>0,fun _=>0,fun _ _=>0,fun _ _=>0,fun _=>.slice none 0 0,fun _=>0,.slice none 0 0,[]⟩:=by
 have hz3:=hb3.size;have hw5:((w3.alloc (.cells #[.slice (some ⟨Gd,0,none⟩) n n] 56)).alloc (.cells (madeCells #[.slice none 0 0] n) 40)).heap.size=w3.heap.size+2:=by simp
 have h35:Below w3.heap.size w3 ((w3.alloc (.cells #[.slice (some ⟨Gd,0,none⟩) n n] 56)).alloc (.cells (madeCells #[.slice none 0 0] n) 40)):=Xb (Xb (Below.refl _ _) _) _;have hz6:w3.heap.size+2<=W0.heap.size:=by have:=hb6.size;omega
 have hB36:Below w3.heap.size w3 W0:=h35.trans (hb6.mono (by omega));have hBY:Below Y.heap.size Y W0:=Xj hb3 hB36;have hwY:=h.low.size;have gi:=h.gi.lt;have gl:=World.block_lt_of_cell? Y _ h.l0;have gg:=h.out.row.lt;have b1:=h.b1;have b2:=h.b2;have b3:=h.b3;have hnr:((w3.alloc (.cells #[.slice (some ⟨Gd,0,none⟩) n n] 56)).alloc (.cells (madeCells #[.slice none 0 0] n) 40)).rowIs (w3.heap.size+1) 40 n (fun _=>.slice none 0 0):=by
  have:=World.rowIs_made (w3.alloc (.cells #[.slice (some ⟨Gd,0,none⟩) n n] 56)) (.slice none 0 0) n 40;rwa[World.size_alloc]at this
 have cY:∀p:Addr,p.block<Y.heap.size->W0.cell? p=Y.cell? p:=fun p hp=>hBY.cell hp
 have gl':LB<Y.heap.size:=gl;refine⟨⟨⟨b1,gi⟩,⟨b2,gl⟩,⟨b3,gg⟩,fun i hi=>⟨h.b4 i hi,(h.out.set i hi).lt⟩,h.d1,h.d2,h.d3,h.d4,⟨hGd,hs3.row.lt⟩,fun i hi=>⟨hgd i hi,(hs3.set i hi).lt⟩,rfl,rfl,⟨hbS,hsea.lb⟩,⟨hgS,hsea.lg⟩,hsea.ne⟩,?_⟩;refine⟨Xj h.low hBY,Nat.le_refl _,(cY _ (by show w.heap.size<_;omega)).trans h.f0,(cY _ (by show w.heap.size<_;omega)).trans h.f1,(cY _ (by show w.heap.size+1<_;omega)).trans h.r0,(cY _ (by show w.heap.size+1<_;omega)).trans h.r1,fun q=>(hBY.frozen (p:=⟨w.heap.size+1,q,none⟩) (by show w.heap.size+1<_;omega)).trans (h.rz q),(cY _ gl').trans h.l0,(cY _ gl').trans h.l1,(hb6.cell (p:=⟨w3.heap.size,0,none⟩) (by show w3.heap.size<_;omega)).trans (by simp[go_sem]),h.out.keep hBY,(h.gi.of_block (hBY.block _ gi)).congr (fun i _=>by simp),fun i hi=>absurd hi (by omega),fun i j hi=>absurd hi (by omega),fun i hi=>absurd hi (by omega),hs3.keep hB36,(hnr.of_block (hb6.block _ (by omega))).congr (fun i _=>by simp),fun i hi=>absurd hi (by omega),hsea,fun i hi=>absurd hi (by omega)⟩
end Go.Proofs.YtbofmlmdgkblkaaDoor
namespace Go.Proofs.YtbofmlmdgkblkaaDoor
open Go.RowKit Go.Shelf
structure FlI(w4:World)(gB gD Kw CB:Nat)(W0:Nat->Nat)(pre:List Pl)(V:World):Prop where
 os:V.os=w4.os
 tape:V.tape=w4.tape
 output:V.output=w4.output
 size:w4.heap.size<=V.heap.size
 fr:∀q,q<w4.heap.size->q≠gB->q≠gD->V.heap[q]?=w4.heap[q]?
 ws:WsAt V gB Kw CB ((pre.map Pl.dat).foldl Tc W0)
 wd:WsAt V gD Kw Kw ((pre.map Pl.dat).foldl Tj (fun _=>0))
theorem FlI.own{w4:World}{gB gD Kw CB:Nat}{W0:Nat->Nat}(hB:gB<w4.heap.size)(hD:gD<w4.heap.size):OwnFrom w4.heap.size (FlI w4 gB gD Kw CB W0):=fun pre A V row h k q=>by
 have hz:=h.size;have hbl:∀b,b<w4.heap.size->V.heap[b]?=A.heap[b]?:=fun b hb=>k.block b (by omega) (fun e=>by have:=(q b e.symm).1;omega)
 exact⟨k.os.trans h.os,k.tape.trans h.tape,k.output.trans h.output,Nat.le_trans hz k.size,fun b h1 h2 h3=>(hbl b h1).trans (h.fr b h1 h2 h3),h.ws.of_block (hbl gB hB),h.wd.of_block (hbl gD hD)⟩
theorem FlI.below{w4:World}{gB gD Kw CB:Nat}{W0:Nat->Nat}(hB:gB<w4.heap.size)(hD:gD<w4.heap.size){pre:List Pl}{V V':World}(h:FlI w4 gB gD Kw CB W0 pre V)(k:Below V.heap.size V V'):FlI w4 gB gD Kw CB W0 pre V':=XM (FlI.own hB hD) h k
theorem ZfL(l:List (Nat × List Int × List Int)){W:Nat->Nat}(h:XK W):XK (l.foldl Tc W):=by
 induction l generalizing W with
 | nil=>exact h
 | cons q l ih=>exact ih (ZL _ (J3 _ h))
theorem FlI.next{w4:World}{gB gD Kw CB:Nat}{W0:Nat->Nat}{pre:List Pl}{V V1 V2 V3:World}(h:FlI w4 gB gD Kw CB W0 pre V)(hB:gB<w4.heap.size)(hne:gB≠gD){p:Pl}
 (k1:V.grownBy V1 (some gB)) (k2:V1.grownBy V2 (some gB)) (k3:V2.grownBy V3 (some gD)) (hw:WsAt V2 gB Kw CB (Tc ((pre.map Pl.dat).foldl Tc W0) p.dat)) (hd:WsAt V3 gD Kw Kw (Tj ((pre.map Pl.dat).foldl Tj (fun _=>0)) p.dat)):FlI w4 gB gD Kw CB W0 (pre++[p]) V3:=by
 have hz:=h.size;have z1:=k1.size;have z2:=k2.size;have z3:=k3.size;refine⟨k3.os.trans (k2.os.trans (k1.os.trans h.os)),k3.tape.trans (k2.tape.trans (k1.tape.trans h.tape)),k3.output.trans (k2.output.trans (k1.output.trans h.output)),by omega,fun q q1 q2 q3=>?_,?_,?_⟩
 ·exact(k3.block q (by omega) (fun e=>q3 (by injection e))).trans ((k2.block q (by omega) (fun e=>q2 (by injection e))).trans ((k1.block q (by omega) (fun e=>q2 (by injection e))).trans (h.fr q q1 q2 q3)))
 ·rw[List.map_append,List.foldl_append]
  exact hw.of_block (k3.block gB (by omega) (fun e=>hne (by injection e)))
 ·rw[List.map_append,List.foldl_append]
  exact hd
theorem Vy{A V:World}{row:Option Nat}{n₀ B:Nat}{a:Option Addr}{xs:List Int}(h:Xe A n₀ A.heap.size a xs)(k:A.grownBy V row)(q:∀r,row=some r->B<=r/\∃o:Obj,A.heap[r]?=some o/\o.isCells=false):Xe V n₀ V.heap.size a xs:=fun i hi=>by
 obtain⟨b,o,e,hb,hc⟩:=h i hi;refine⟨b,o,e,⟨hb.1,Nat.lt_of_lt_of_le hb.2 k.size⟩,(Xc (k.block b hb.2 (fun e2=>?_))).trans hc⟩;obtain⟨ob,h1,h2⟩:=YM hc;obtain⟨_,o2,h3,h4⟩:=q b e2.symm;rw[show A.heap[b]?=some ob from h1]at h3;injection h3 with h3;subst h3;rw[h2]at h4;cases h4
theorem V8(n n₀:Nat)(Pd:Nat × List Int × List Int->Prop):OwnFrom n (Zf2 n₀ Pd):=fun _ _ _ _ h k q=>⟨h.1,Vy h.2.1 k q,Vy h.2.2 k q⟩
theorem Vh{n₀:Nat}{Pd:Nat × List Int × List Int->Prop}{p:Pl}{V V':World}(h:Zf2 n₀ Pd p V)(k:Below V.heap.size V V'):Zf2 n₀ Pd p V':=XM (V8 0 n₀ Pd) h k
theorem YH{A V:World}{g n₀:Nat}{a:Option Addr}{xs:List Int}(h:Xe A n₀ A.heap.size a xs)(k:A.grownBy V (some g))(hg:g<n₀):Xe V n₀ V.heap.size a xs:=fun i hi=>by
 obtain⟨b,o,e,hb,hc⟩:=h i hi;exact⟨b,o,e,⟨hb.1,Nat.lt_of_lt_of_le hb.2 k.size⟩,(Xc (k.block b hb.2 (fun e2=>by injection e2 with e2;omega))).trans hc⟩
structure PBx(n₀ bp:Nat)(p:Pl)(V:World):Prop where
 ge:n₀<=bp
 c0:V.cell? ⟨bp,0,none⟩=some (.slice p.ua p.us.length p.uc)
 c1:V.cell? ⟨bp,1,none⟩=some (.slice p.da p.ds.length p.dc)
theorem PBx.own{n n₀ bp:Nat}{p:Pl}:OwnFrom n (fun (_:Unit) V=>PBx n₀ bp p V):=fun _ A V row h k q=>by
 have hbl:V.heap[bp]?=A.heap[bp]?:=by
  obtain⟨o,h1,h2⟩:=YM h.c0;refine k.block bp (Array.getElem?_eq_some_iff.1 h1).1 (fun e=>?_);obtain⟨_,o2,h3,h4⟩:=q bp e.symm;rw[show A.heap[bp]?=some o from h1]at h3;injection h3 with h3;subst h3;rw[h2]at h4;cases h4
 exact⟨h.ge,(Xc hbl).trans h.c0,(Xc hbl).trans h.c1⟩
theorem ZD{n₀:Nat}{Ms:Nat->Prop}{V V':World}{g:Nat}(k:V.grownBy V' (some g))(hg:Ms g)(hn:n₀<=V.heap.size):ZG n₀ Ms V V' :=
 ⟨k.size,fun i hi hm=>k.block i (by omega) (fun e=>hm (by injection e with e;rw[e];exact hg)),fun i o hm h1 _=>(k.block i (Array.getElem?_eq_some_iff.1 h1).1 (fun e=>hm (by injection e with e;rw[e];exact hg))).trans h1⟩
theorem Jd{V V':World}{g:Nat}(k:V.grownBy V' (some g))(hg:∃o:Obj,V.heap[g]?=some o/\o.isCells=true):KeepsOthers V V' :=
 KeepsOthers.of_grownBy k (fun j o e h=>by
  obtain⟨o2,h1,h2⟩:=hg;injection e with e;subst e;rw[h1]at h;injection h with h;rw[<-h];exact h2)
theorem WsAt.obj{w:World}{g K C:Nat}{W:Nat->Nat}(h:WsAt w g K C W):∃o:Obj,w.heap[g]?=some o/\o.isCells=true:=by
 obtain⟨_,T,c,h1,_⟩:=h;exact⟨_,h1,rfl⟩
theorem Zei{wr W:World}{B D:Nat}{ds:List Nat}(h:UQ wr B ds)(hB:B<=wr.heap.size)(hD:wr.heap.size<=D)(hK:W.heap[D]?=some (.deferred (some [])))(hb:∀k,B<=k->wr.heap[k]?=some (.deferred (some []))->W.heap[k]?=wr.heap[k]?):UQ W B (D::ds):=by
 have hl:∀k∈ds,k<wr.heap.size:=fun k hk=>(Array.getElem?_eq_some_iff.1 (h.obj k hk)).1
 refine⟨List.nodup_cons.2 ⟨fun k=>by have:=hl D k;omega,h.nd⟩,fun k hk=>?_,fun k hk=>?_⟩
 ·rcases List.mem_cons.1 hk with rfl | hk
  ·omega
  ·exact h.ge k hk
 ·rcases List.mem_cons.1 hk with rfl | hk
  ·exact hK
  ·exact(hb k (h.ge k hk) (h.obj k hk)).trans (h.obj k hk)
def PdV(V:Nat)(q:Nat × List Int × List Int):Prop:=(∀v∈q.2.1,0<=v/\v<V)/\(∀v∈q.2.2,0<=v/\v<V)/\q.2.1.length<=4000/\q.2.2.length<=4000
theorem ZcT{V:Nat}{xs:List Xg}(ho:UF V xs){x:Xg}(hx:x∈xs):∀q∈plL x,PdV V q:=fun q hq=>by
 unfold plL at hq;have hT:(rdT x.term).length<=1:=by unfold rdT;split<;>simp
 rcases List.mem_cons.1 hq with rfl | hq
 ·exact⟨ho.rdt x hx,fun v hv=>absurd hv List.not_mem_nil,by show(rdT x.term).length<=_;omega,by simp⟩
 ·rcases List.mem_append.1 hq with hq | hq
  ·obtain⟨j,_,rfl⟩:=List.mem_map.1 hq
   have h1:=ZbV x.instrs[j];have h2:(writesI x.instrs[j]).length<=1:=by unfold writesI;split<;>simp
   exact⟨ho.rdi x hx _ (List.getElem_mem _),ho.wri x hx _ (List.getElem_mem _),by show(rdI x.instrs[j]).length<=_;omega,by show(writesI x.instrs[j]).length<=_;omega⟩
  ·rw[List.mem_singleton.1 hq]
   refine⟨fun v hv=>absurd hv List.not_mem_nil,fun v hv=>?_,by simp,?_⟩
   ·obtain⟨p,hp,rfl⟩:=List.mem_map.1 hv
    exact ho.phd x hx p hp
   ·show(x.phis.map Ph.dst).length<=_
    rw[List.length_map];exact(ho.lens x hx).2
structure FlR(w w':World)(n Kw:Nat)(xs:List Xg)(Gi Go:Nat)(gi go ci:Nat->Nat)(WI WX:Nat->Nat->Nat):Prop where
 low:Below w.heap.size w w'
 si:XI w' Gi n Kw gi ci WI
 so:XI w' Go n Kw go (fun _=>Kw) WX
 wi:XV WI
 wx:XV WX
 b1:w.heap.size<=Gi/\w.heap.size<=Go
 b2:∀i,i<n->w.heap.size<=gi i/\w.heap.size<=go i
 inn:∃(I T W0:Nat->Nat->Nat)(ord:List Nat),(∀i (h:i<xs.length),I i=inW xs[i] (W0 i))/\(∀i (h:i<xs.length),T i=dfW xs[i])/\(∀b,b<xs.length->∀v,Xf (W0 b) v=true↔(b,v)∈Wa xs xs.length)/\(∀b,b<xs.length->b∈ord)/\(∀b,b<n->∀x,x<64*Kw->(Xf (WI b) x=true↔Sp I T (·∈ord) (XW xs) b x))/\∀b,b<n->∀x,(Xf (WX b) x=true↔Xf (W0 b) x=true\/∃t∈XW xs b,Xf (WI t) x=true)
def sdA(W:Nat->Nat)(q:Nat × List Int × List Int):Nat->Nat:=addsN W (X0 q.2.2)
def Uu(W:Nat->Nat)(q:Nat × List Int × List Int):Nat->Nat:=addsN (delsN (sdA W q) (X0 q.2.2)) (X0 q.2.1)
def sdE(m:Nat)(W:Nat->Nat)(q:Nat × List Int × List Int):List (Nat × (Nat->Nat)):=if q.1<=m then [(q.1,sdA W q)]else []
def KV(m:Nat):(Nat->Nat)->List (Nat × List Int × List Int)->List (Nat × (Nat->Nat))
 | _,[]=>[]
 | W,q::l=>sdE m W q++KV m (Uu W q) l
theorem JG(m:Nat)(q:Nat × List Int × List Int):∀(l:List (Nat × List Int × List Int))(W:Nat->Nat),KV m W (l++[q])=KV m W l++sdE m (l.foldl Uu W) q
 | [],W=>by simp[KV]
 | p::l,W=>by
  show sdE m W p++KV m (Uu W p) (l++[q])=(sdE m W p++KV m (Uu W p) l)++sdE m (l.foldl Uu (Uu W p)) q;rw[JG m q l,List.append_assoc]
theorem ZhI{W:Nat->Nat}(h:XK W)(q:Nat × List Int × List Int):XK (sdA W q)/\XK (Uu W q):=by
 have h1:XK (sdA W q):=ZL _ h;exact⟨h1,ZL _ (J3 _ h1)⟩
theorem Zfs(l:List (Nat × List Int × List Int)){W:Nat->Nat}(h:XK W):XK (l.foldl Uu W):=by
 induction l generalizing W with
 | nil=>exact h
 | cons q l ih=>exact ih (ZhI h q).2
theorem ZcV(m:Nat):∀(l:List (Nat × List Int × List Int))(W:Nat->Nat),(KV m W l).length<=l.length
 | [],_=>Nat.le_refl _
 | q::l,W=>by
  have:=ZcV m l (Uu W q);have h:(sdE m W q).length<=1:=by unfold sdE;split<;>simp
  show(sdE m W q++KV m (Uu W q) l).length<=l.length+1;rw[List.length_append];omega
structure Sd where
 i:Nat
 C:Nat
 W:Nat->Nat
def Sd.dat(p:Sd):Nat × (Nat->Nat):=(p.i,p.W)
def ZgX(Kw z:Nat)(p:Sd):Array Value:=#[.int .i64 (p.i:Int),.agg #[.slice (some ⟨z,0,none⟩) Kw p.C]]
def Zjt(Kw z:Nat)(p:Sd)(V:World):Prop:=WsAt V z Kw p.C p.W/\XK p.W
structure SdI(W:World)(n₁ l Bl Bx gl Kw C1 m:Nat)(ia:Option Addr)(ic:Nat)(W0:Nat->Nat)(J:Nat->List Sd->World->Prop)(pre:List Pl)(V:World):Prop where
 js:∃ss:List Sd,ss.map Sd.dat=KV m W0 (pre.map Pl.dat)/\J gl ss V
 y:V.cell? ⟨W.heap.size,0,none⟩=some (.func (.yield l) #[] #[])
 lv:V.cell? ⟨Bl,0,none⟩=some (.slice (some ⟨gl,0,none⟩) Kw C1)
 ws:WsAt V gl Kw C1 ((pre.map Pl.dat).foldl Uu W0)
 bx:V.cell? ⟨Bx,1,none⟩=some (.slice ia m ic)
 sz:n₁<=V.heap.size
theorem SdI.own{W:World}{n₁ l Bl Bx gl Kw C1 m:Nat}{ia:Option Addr}{ic:Nat}{W0:Nat->Nat}{J:Nat->List Sd->World->Prop}(hJ:∀z,OwnFrom W.heap.size (J z))(hW:W.heap.size<n₁)(hl:Bl<n₁)(hx:Bx<n₁)(hg:gl<n₁):OwnFrom n₁ (SdI W n₁ l Bl Bx gl Kw C1 m ia ic W0 J):=fun pre A V row h k q=>by
 have hz:=h.sz;have hbl:∀b,b<n₁->V.heap[b]?=A.heap[b]?:=fun b hb=>k.block b (by omega) (fun e=>by have:=(q b e.symm).1;omega)
 obtain⟨ss,h1,h2⟩:=h.js;exact⟨⟨ss,h1,hJ gl ss A V row h2 k (fun r e=>⟨by have:=(q r e).1;omega,(q r e).2⟩)⟩,(Xc (hbl _ hW)).trans h.y,(Xc (hbl _ hl)).trans h.lv,h.ws.of_block (hbl _ hg),(Xc (hbl _ hx)).trans h.bx,Nat.le_trans hz k.size⟩
end Go.Proofs.YtbofmlmdgkblkaaDoor
namespace Go.Proofs.YtbofmlmdgkblkaaDoor
open Go.RowKit
def stF(x:Xg)(W0:Nat->Nat):Nat->Nat:=Uu W0 (x.instrs.length+1,rdT x.term,[])
def stB(x:Xg)(W0:Nat->Nat)(k:Nat):Nat->Nat:=((TA x.instrs.length k).map (Ut x)).foldl Uu (stF x W0)
theorem ZaE(W:Nat->Nat)(q:Nat × List Int × List Int)(v:Nat):Xf (sdA W q) v=(decide (v∈X0 q.2.2)||Xf W v):=by
 unfold sdA;rw[YV]
theorem ZcY(W:Nat->Nat)(q:Nat × List Int × List Int)(v:Nat):Xf (Uu W q) v=(decide (v∈X0 q.2.1)||(decide (v ∉ X0 q.2.2)&&Xf W v)):=by
 unfold Uu;rw[YV,JD,ZaE];by_cases h:v∈X0 q.2.2<;>simp[h]
theorem Zfq(x:Xg)(W0:Nat->Nat){k:Nat}(hk:k<x.instrs.length):stB x W0 k=Uu (stB x W0 (k+1)) (Ut x ⟨k,hk⟩):=by
 unfold stB;rw[Ku hk,List.map_append,List.foldl_append];rfl
theorem ZaF{x:Xg}{W0:Nat->Nat}{v:Nat}{q:Bool}(hq:Xf W0 v=q)(hy:∀y∈x.instrs,(∀v∈rdI y,0<=v)/\∀v∈writesI y,0<=v)(ht:∀v∈rdT x.term,0<=v):∀d k,k+d=x.instrs.length->Xf (stB x W0 k) v=KD x v q k
 | 0,k,hk=>by
  have hk:k=x.instrs.length:=by omega
  subst hk;rw[Zgk x v q (Nat.le_refl _)];unfold stB;rw[KM];show Xf (Uu W0 (x.instrs.length+1,rdT x.term,[])) v=_;rw[ZcY,hq,Bool.eq_iff_iff,Bool.or_eq_true,Bool.or_eq_true,decide_eq_true_eq,YB ht,XU];simp[X0]
 | d+1,k,hk=>by
  have hlt:k<x.instrs.length:=by omega
  have ih:=ZaF hq hy ht d (k+1) (by omega);have h0:=hy x.instrs[k] (List.getElem_mem hlt);rw[Zfq x W0 hlt,ZcY,ih,Zfh x v q hlt];show(decide (v∈X0 (rdI x.instrs[k]))||(decide (v ∉ X0 (writesI x.instrs[k]))&&KD x v q (k+1)))=_;have e1:decide (v∈X0 (rdI x.instrs[k]))=XT (rdI x.instrs[k]) (v:Int):=by rw[Bool.eq_iff_iff,decide_eq_true_eq,YB h0.1,XU]
  have e2:decide (v ∉ X0 (writesI x.instrs[k]))=!decide (ZP x.instrs[k]=(v:Int)):=by
   rw[Bool.eq_iff_iff];simp only[decide_eq_true_eq,Bool.not_eq_true',decide_eq_false_iff_not,YB h0.2,Yz]
  rw[e1,e2,Bool.and_comm]
theorem Zdn(x:Xg)(W0:Nat->Nat):∀d k,k+d=x.instrs.length->KV x.instrs.length (stF x W0) ((TA x.instrs.length k).map (Ut x))=(TA x.instrs.length k).map fun j:Fin x.instrs.length=>((j:Nat)+1,sdA (stB x W0 ((j:Nat)+1)) (Ut x j))
 | 0,k,hk=>by
  have hk:k=x.instrs.length:=by omega
  subst hk;rw[KM];rfl
 | d+1,k,hk=>by
  have hlt:k<x.instrs.length:=by omega
  have ih:=Zdn x W0 d (k+1) (by omega);rw[Ku hlt,List.map_append,List.map_append,List.map_cons,List.map_nil,JG,ih];congr 1;unfold sdE;rw[if_pos (show(Ut x ⟨k,hlt⟩).1<=x.instrs.length from hlt)];rfl
theorem ZcQ(x:Xg)(W0:Nat->Nat):KV x.instrs.length W0 (plL x)=((TA x.instrs.length 0).map fun j:Fin x.instrs.length=>((j:Nat)+1,sdA (stB x W0 ((j:Nat)+1)) (Ut x j)))++[(0,sdA (stB x W0 0) (0,[],x.phis.map Ph.dst))]:=by
 unfold plL;show sdE x.instrs.length W0 (x.instrs.length+1,rdT x.term,[])++KV x.instrs.length (stF x W0) ((TA x.instrs.length 0).map (Ut x)++[(0,[],x.phis.map Ph.dst)])=_;rw[JG,Zdn x W0 x.instrs.length 0 (by omega)];have e1:sdE x.instrs.length W0 (x.instrs.length+1,rdT x.term,[])=[]:=by
  unfold sdE;rw[if_neg (by simp)]
 have e2:sdE x.instrs.length (((TA x.instrs.length 0).map (Ut x)).foldl Uu (stF x W0)) (0,[],x.phis.map Ph.dst)=[(0,sdA (stB x W0 0) (0,[],x.phis.map Ph.dst))]:=by
  unfold sdE;rw[if_pos (Nat.zero_le _)];rfl
 rw[e1,e2];rfl
theorem Zig{V:Nat}{xs:List Xg}(ho:UF V xs){b v:Nat}(hb:b<xs.length){W0:Nat->Nat}{q:Bool}(hq:Xf W0 v=q){i:Nat}{W:Nat->Nat}(h:(i,W)∈KV xs[b].instrs.length W0 (plL xs[b])):i<=xs[b].instrs.length/\Xf W v=PsP xs xs[b] b i v q:=by
 have hm:=List.getElem_mem hb;have hy:∀y∈xs[b].instrs,(∀v∈rdI y,0<=v)/\∀v∈writesI y,0<=v:=fun y hy=>⟨fun z hz=>(ho.rdi _ hm y hy z hz).1,fun z hz=>(ho.wri _ hm y hy z hz).1⟩
 have ht:∀v∈rdT xs[b].term,0<=v:=fun z hz=>(ho.rdt _ hm z hz).1
 rw[ZcQ]at h;rcases List.mem_append.1 h with h | h
 ·obtain⟨j,_,e⟩:=List.mem_map.1 h
  have e1:(j:Nat)+1=i:=congrArg Prod.fst e;have e2:sdA (stB xs[b] W0 ((j:Nat)+1)) (Ut xs[b] j)=W:=congrArg Prod.snd e;subst e1 e2;have hj:=j.isLt;refine⟨hj,?_⟩;rw[ZaE,ZaF hq hy ht (xs[b].instrs.length-(j+1)) (j+1) (by omega)];show _=(KD xs[b] v q ((j:Nat)+1)||(match xs[b].instrs[(j:Nat)]? with
   | none=>false
   | some y=>decide (ZP y=(v:Int))))
  rw[List.getElem?_eq_getElem hj,Bool.or_comm];congr 1;rw[Bool.eq_iff_iff,decide_eq_true_eq,decide_eq_true_eq,Yz];exact YB (hy _ (List.getElem_mem hj)).2
 ·have e:=List.mem_singleton.1 h
  have e1:i=0:=congrArg Prod.fst e;have e2:W=sdA (stB xs[b] W0 0) (0,[],xs[b].phis.map Ph.dst):=congrArg Prod.snd e;subst e1 e2;refine⟨Nat.zero_le _,?_⟩;rw[ZaE,ZaF hq hy ht xs[b].instrs.length 0 (by omega)];show _=(KD xs[b] v q 0||KW xs b v);rw[Bool.or_comm];congr 1;unfold KW;rw[List.getElem?_eq_getElem hb,Bool.eq_iff_iff,decide_eq_true_eq];show v∈X0 (xs[b].phis.map Ph.dst)↔XT (xs[b].phis.map Ph.dst) (v:Int)=true;rw[XU];exact YB (fun z hz=>by obtain⟨p,hp,rfl⟩:=List.mem_map.1 hz;exact(ho.phd _ hm p hp).1)
theorem Zfi{V:Nat}{xs:List Xg}(ho:UF V xs){b v:Nat}(hb:b<xs.length){q:Bool}(hq:q=true->v<V){j:Nat}(h:KD xs[b] v q j=true):v<V:=by
 have hm:=List.getElem_mem hb;unfold KD at h;rcases Up _ (of_decide_eq_true h)with h3 | ⟨y,hy,h3⟩
 ·rcases Bool.or_eq_true _ _ ▸ h3 with h4 | h4
  ·have:=(ho.rdt _ hm _ (XU.1 h4)).2;omega
  ·exact hq h4
 ·have:=(ho.rdi _ hm y (List.mem_of_mem_drop hy) _ h3).2;omega
theorem Zi7{V:Nat}{xs:List Xg}(ho:UF V xs){b v:Nat}(hb:b<xs.length){q:Bool}(hq:q=true->v<V){i:Nat}(h:PsP xs xs[b] b i v q=true):v<V:=by
 have hm:=List.getElem_mem hb;cases i with
 | zero =>
  rcases Bool.or_eq_true _ _ ▸ (show(KD xs[b] v q 0||KW xs b v)=true from h)with h1 | h1
  ·exact Zfi ho hb hq h1
  ·unfold KW at h1
   rw[List.getElem?_eq_getElem hb]at h1;obtain⟨p,hp,e⟩:=List.mem_map.1 (XU.1 h1);have:=(ho.phd _ hm p hp).2;omega
 | succ j =>
  have h':(KD xs[b] v q (j+1)||(match xs[b].instrs[j]? with
   | none=>false
   | some y=>decide (ZP y=(v:Int))))=true:=h
  rcases Bool.or_eq_true _ _ ▸ h' with h1 | h1
  ·exact Zfi ho hb hq h1
  ·cases hj:xs[b].instrs[j]? with
   | none=>rw[hj]at h1;cases h1
   | some y =>
    rw[hj]at h1;have h2:=Yz.1 (of_decide_eq_true h1);have:=(ho.wri _ hm y (List.mem_of_getElem? hj) _ h2).2;omega
open Classical in
noncomputable def ptP(xs:List Xg)(x:Xg)(V b i:Nat):List Nat:=(List.range V).filter fun v=>PsP xs x b i v (decide (Lou xs v b))
open Classical in
theorem Zir{V:Nat}{xs:List Xg}(ho:UF V xs){b:Nat}(hb:b<xs.length){W0:Nat->Nat}{p:Nat}(hV:V<=p)(hq:∀v,v<p->(Xf W0 v=true↔Lou xs v b)){i:Nat}{W:Nat->Nat}(h:(i,W)∈KV xs[b].instrs.length W0 (plL xs[b])):Jn W p=ptP xs xs[b] V b i:=by
 have hs:∀v,v<p->Xf W v=PsP xs xs[b] b i v (decide (Lou xs v b)):=fun v hv=>(Zig ho hb (by rw[Bool.eq_iff_iff,hq v hv,decide_eq_true_eq]) h).2
 rw[UY hV (fun v h1 h2=>by
  rw[<-Bool.not_eq_true,hs v h2];intro h3;have:=Zi7 ho hb (fun h4=>(of_decide_eq_true h4:Lou xs v b).val ho hb) h3;omega)]
 unfold Jn ptP;apply List.filter_congr;intro v hv;have:=List.mem_range.1 hv;exact hs v (by omega)
end Go.Proofs.YtbofmlmdgkblkaaDoor
namespace Go.Proofs.YtbofmlmdgkblkaaDoor
open Go.RowKit Go.Shelf
theorem Zec{w w':World}{base e s:Nat}{v:Value}{n:Nat}{xs:List Value}(h:w.ownsRow base e s v n xs)(hb:∀g,v.ownBlock=some g->w'.heap[g]?=w.heap[g]?):w'.ownsRow base e s v n xs:=by
 obtain⟨hl,h | ⟨g,cap,cur,rfl,hg,hh,hc,h1,hs,ht⟩⟩:=h
 ·exact⟨hl,Or.inl h⟩
 ·exact⟨hl,Or.inr ⟨g,cap,cur,rfl,hg,(hb g rfl).trans hh,hc,h1,hs,ht⟩⟩
theorem Zee{w:World}{base e s:Nat}{v:Value}{n:Nat}{xs:List Value}(h:w.ownsRow base e s v n xs){g:Nat}(hv:v.ownBlock=some g):∃o:Obj,w.heap[g]?=some o/\o.isCells=true:=by
 obtain⟨_,h | ⟨g2,cap,cur,rfl,_,hh,_⟩⟩:=h
 ·rw[h.1]at hv;cases hv
 ·have e:g2=g:=by simpa [Value.ownBlock]using hv
  subst e;exact⟨_,hh,rfl⟩
theorem YQ.same{w w':World}{bS gS BL K:Nat}{ab:Option Addr}{nb cb:Nat}{W:Nat->Nat}{v:Value}{L:List Nat}(h:YQ w bS gS BL K ab nb cb W v L)(hb:w'.heap[bS]?=w.heap[bS]?)(hg:w'.heap[gS]?=w.heap[gS]?)(ho:∀g,v.ownBlock=some g->w'.heap[g]?=w.heap[g]?)(hz:w.heap.size<=w'.heap.size):YQ w' bS gS BL K ab nb cb W v L:=by
 have ce:∀q,w'.cell? ⟨bS,q,none⟩=w.cell? ⟨bS,q,none⟩:=fun q=>World.cell?_of_block hb
 exact⟨(ce 0).trans h.c0,(ce 1).trans h.c1,(ce 2).trans h.c2,fun q=>(World.frozen?_of_block hb).trans (h.thaw q),h.row.of_block hg,Zec h.own ho,h.lb,h.lg,h.ne,Nat.le_trans h.sz hz⟩
section
variable {p : Ug} {wr w4 W w5 : World} {k : Nat} {d : FlD} {gB CB : Nat} {ps : List Pl} {u5 : Value}
theorem Zb7(hF4:∀q,q<wr.heap.size->q≠p.Gi->w4.heap[q]?=wr.heap[q]?)(hz4:wr.heap.size<=w4.heap.size)(hgB:wr.heap.size<=gB)(hI:FlI w4 gB (p.gd k) p.Kw CB (p.WO k) ps W)(hb5:Below W.heap.size W w5) :
 ∀q,q<wr.heap.size->q≠p.Gi->q≠p.gd k->q≠p.Gn->(w5.setCell ⟨p.Gn,k,none⟩ u5).heap[q]?=wr.heap[q]?:=fun q h1 h2 h3 h4=>by
 have:=hI.size;exact(Below.heap_setCell _ _ _ _ h4).trans ((hb5.block q (by omega)).trans ((hI.fr q (by omega) (by omega) h3).trans (hF4 q h1 h2)))
theorem ZdR(h:FlK p wr k d)(s:FlS p)(hk:k<p.n)(hF4:∀q,q<wr.heap.size->q≠p.Gi->w4.heap[q]?=wr.heap[q]?)(hz4:wr.heap.size<=w4.heap.size)(hgB:wr.heap.size<=gB)(hI:FlI w4 gB (p.gd k) p.Kw CB (p.WO k) ps W)(hb5:Below W.heap.size W w5) :
 YQ (w5.setCell ⟨p.Gn,k,none⟩ u5) p.bS p.gS p.M p.K2 p.a p.n p.c d.Ws d.vS d.Lf:=by
 have hz:=h.sz;have fr:=Zb7 (u5:=u5) hF4 hz4 hgB hI hb5;have a1:=s.a1;have a5:=s.a5;have a6:=s.a6 k hk;have a8:=s.a8;have a9:=s.a9;have a10:=s.a10;have hz1:=hI.size;have hz5:=hb5.size;refine h.sea.same (fr _ (by omega) (by omega) (by omega) (by omega)) (fr _ (by omega) (by omega) (by omega) (by omega)) (fun g e=>?_) (by rw[Xd];omega);have:=h.sea.own.lt g e;exact fr g (by omega) (by omega) (by omega) (by omega)
theorem FlK.round{w7:World}{X:Xg}{D:Nat}{ds:List Nat}{a5:Option Addr}{c5:Nat}{v':Value}(h:FlK p wr k d)(s:FlS p)(hq:FlQ p k d)(hm:UQ wr p.M ds)(hk:k<p.n)(hkx:k<p.xs.length)(ht:∀b,b<p.n->∀t∈XW p.xs b,t<p.n)
 (hF4:∀q,q<wr.heap.size->q≠p.Gi->w4.heap[q]?=wr.heap[q]?) (hE4:w4.os=wr.os/\w4.tape=wr.tape/\w4.output=wr.output) (hz4:wr.heap.size<=w4.heap.size) (hgB:wr.heap.size<=gB) (hgB4:gB<w4.heap.size)
 (hGi:w4.rowIs p.Gi 62 p.n (fun i=>if i=k then .slice (some ⟨gB,0,none⟩) p.Kw CB else if i<k then .slice (some ⟨d.gi i,0,none⟩) p.Kw (d.ci i)else .slice none 0 0))
 (hI:FlI w4 gB (p.gd k) p.Kw CB (p.WO k) ps W) (hS:ps.map Pl.dat=plL X) (hX:X=p.xs[k]) (hD:w4.heap.size<=D) (hKD:W.heap[D]?=some (.deferred (some [])))
 (hb5:Below W.heap.size W w5) (hi5:Xe w5 W.heap.size w5.heap.size a5 X.term.targets)
 (hf:TU (w5.setCell ⟨p.Gn,k,none⟩ (.slice a5 X.term.targets.length c5)) w7 p.bS p.gS d.vS v') (hs:YQ w7 p.bS p.gS p.M p.K2 p.a p.n p.c (dfsV (XW p.xs) p.n k (d.Ws,d.Lf)).1 v' (dfsV (XW p.xs) p.n k (d.Ws,d.Lf)).2) :
 ∃d',FlK p w7 (k+1) d'/\FlQ p (k+1) d'/\UQ w7 p.M (D::ds):=by
 have hz:=h.sz;have fr:=Zb7 (u5:=.slice a5 X.term.targets.length c5) hF4 hz4 hgB hI hb5;have a1:=s.a1;have a5':=s.a5;have a6:=s.a6 k hk;have a8:=s.a8;have a9:=s.a9;have a10:=s.a10;have hz1:=hI.size;have hz5:=hb5.size;have hz6:=hf.size;rw[Xd]at hz6;have hvl:∀g,d.vS.ownBlock=some g->p.M<=g/\g<wr.heap.size:=fun g e=>h.sea.own.lt g e
 have hvo:∀g,v'.ownBlock=some g->d.vS.ownBlock=some g\/w5.heap.size<=g:=fun g e=>by
  rcases hf.own with q | q
  ·exact Or.inl (by rw[<-q];exact e)
  ·have:=q g e;rw[Xd]at this;exact Or.inr this
 have hDl:D<W.heap.size:=(Array.getElem?_eq_some_iff.1 hKD).1;have up:∀q,wr.heap.size<=q->q<w5.heap.size->w7.heap[q]?=w5.heap[q]?:=fun q h1 h2=>(hf.block q (by rw[Xd];exact h2) (by omega) (by omega) (fun e=>by have:=hvl q e.symm;omega)).trans (Below.heap_setCell _ _ _ _ (by show q≠p.Gn;omega))
 have lo:∀q,q<wr.heap.size->q≠p.Gn->q≠p.bS->q≠p.gS->some q≠d.vS.ownBlock->w7.heap[q]?=W.heap[q]?:=fun q h1 h2 h3 h4 h5=>(hf.block q (by rw[Xd];omega) h3 h4 h5).trans ((Below.heap_setCell _ _ _ _ h2).trans (hb5.block q (by omega)))
 have hown:∀q,q<p.M->some q≠d.vS.ownBlock:=fun q hq e=>by have:=hvl q e.symm;omega
 have hfr:∀q,q<wr.heap.size->q≠p.Gi->q≠p.gd k->q≠p.Gn->q≠p.bS->q≠p.gS->some q≠d.vS.ownBlock->w7.heap[q]?=wr.heap[q]?:=fun q h1 h2 h3 h4 h5 h6 h7=>(hf.block q (by rw[Xd];omega) h5 h6 h7).trans (fr q h1 h2 h3 h4)
 have hwI:(ps.map Pl.dat).foldl Tc (p.WO k)=inW p.xs[k] (p.WO k):=by rw[hS,<-hX];rfl
 have hwD:(ps.map Pl.dat).foldl Tj (fun _=>0)=dfW p.xs[k]:=by rw[hS,<-hX];rfl
 have hIw:WsAt w7 gB p.Kw CB (inW p.xs[k] (p.WO k)):=by
  rw[<-hwI];exact hI.ws.of_block ((up gB hgB (by omega)).trans (hb5.block gB (by omega)))
 have hDw:WsAt w7 (p.gd k) p.Kw p.Kw (dfW p.xs[k]):=by
  rw[<-hwD];exact hI.wd.of_block (lo _ (by omega) (by omega) (by omega) (by omega) (hown _ (by omega)))
 have hGi7:=(hGi.of_block (hI.fr p.Gi (by omega) (by omega) (by omega))).of_block (lo p.Gi (by omega) (by omega) (by omega) (by omega) (hown _ (by omega)));have hGn5:w5.rowIs p.Gn 40 p.n (fun i=>if i<k then d.nx i else .slice none 0 0):=by
  refine((h.nxr.of_block (hF4 p.Gn (by omega) (by omega))).of_block (hI.fr p.Gn (by omega) (by omega) (by omega))).of_block (hb5.block p.Gn (by omega))
 have hGn7:=(hGn5.set k (.slice a5 X.term.targets.length c5)).of_block (hf.block p.Gn (by rw[Xd];omega) (by omega) (by omega) (hown _ (by omega)));have htg:tgI p.xs k=X.term.targets:=by rw[Zar hkx,hX]
 refine⟨_,h.next s hk (gB:=gB) (CB:=CB) (I':=inW p.xs[k] (p.WO k)) (D':=dfW p.xs[k]) (nk:=.slice a5 X.term.targets.length c5) (v':=v') (Ws':=(dfsV (XW p.xs) p.n k (d.Ws,d.Lf)).1) (Lf':=(dfsV (XW p.xs) p.n k (d.Ws,d.Lf)).2) (hf.os.trans (hb5.os.trans (hI.os.trans hE4.1))) (hf.tape.trans (hb5.tape.trans (hI.tape.trans hE4.2.1))) (hf.output.trans (hb5.output.trans (hI.output.trans hE4.2.2))) (by omega) hfr hgB hIw hGi7 hDw hGn7 ⟨a5,c5,by rw[htg],?_⟩ hs ?_ ?_,hq.next hk ht _ _ _ _ hkx rfl rfl,Zei hm hz (by omega) ?_ ?_⟩
 ·rw[htg]
  intro i hi;obtain⟨b,o,e,hb,hc⟩:=hi5 i hi;refine⟨b,o,e,⟨⟨by omega,by omega,fun e2=>?_⟩,by omega⟩,(Xc (up b (by omega) hb.2)).trans hc⟩;rcases hvo b e2.symm with q | q
  ·have:=hvl b q;omega
  ·omega
 ·rcases hf.own with q | q
  ·exact Or.inl q
  ·exact Or.inr (fun g e=>by have:=q g e;rw[Xd]at this;omega)
 ·intro e
  rcases hvo gB e.symm with q | q
  ·have:=hvl gB q;omega
  ·omega
 ·exact(up D (by omega) (by omega)).trans ((hb5.block D hDl).trans hKD)
 ·intro q h1 h2
  have hql:q<wr.heap.size:=(Array.getElem?_eq_some_iff.1 h2).1;refine hfr q hql (by omega) (by omega) (by omega) (by omega) (by omega) (fun e=>?_);obtain⟨o,h3,h4⟩:=Zee h.sea.own e.symm;rw[h2]at h3;injection h3 with h3;rw[<-h3]at h4;cases h4
end
end Go.Proofs.YtbofmlmdgkblkaaDoor
namespace Go.Proofs.YtbofmlmdgkblkaaDoor
open Go.RowKit Go.Shelf
def I0(xs:List Xg)(WO:Nat->Nat->Nat)(i:Nat):Nat->Nat:=(xs[i]?).elim (fun _=>0) fun x=>inW x (WO i)
def T0(xs:List Xg)(i:Nat):Nat->Nat:=(xs[i]?).elim (fun _=>0) dfW
theorem Zht{xs:List Xg}{WO:Nat->Nat->Nat}{i:Nat}(h:i<xs.length):I0 xs WO i=inW xs[i] (WO i):=by simp[I0,h]
theorem ZgW{xs:List Xg}{i:Nat}(h:i<xs.length):T0 xs i=dfW xs[i]:=by simp[T0,h]
theorem ZiA{xs:List Xg}{WO:Nat->Nat->Nat}(h:XV WO):XV (I0 xs WO):=fun i=>by
 unfold I0;cases xs[i]? with
 | none=>exact JW
 | some x=>exact ZhA x (h i)
theorem Zit{xs:List Xg}:XV (T0 xs):=fun i=>by
 unfold T0;cases xs[i]? with
 | none=>exact JW
 | some x=>exact Zh6 x
theorem XI.congr{w:World}{G n K:Nat}{gs cp:Nat->Nat}{Ws Ws':Nat->Nat->Nat}(h:XI w G n K gs cp Ws)(e:∀i,i<n->Ws i=Ws' i):XI w G n K gs cp Ws' :=
 ⟨h.row,fun i hi=>by rw[<-e i hi];exact h.set i hi,h.inj,h.out⟩
def Zal(xs:List Xg):List (List Nat):=(List.range xs.length).map (XW xs)
theorem Zfl(xs:List Xg):(fun b=>(Zal xs).getD b [])=XW xs:=by
 funext b;unfold Zal;by_cases h:b<xs.length
 ·simp[h]
 ·simp only[List.getD_eq_getElem?_getD,List.getElem?_map]
  rw[List.getElem?_eq_none (by simp;omega)];unfold XW;rw[List.getElem?_eq_none (by omega)];rfl
theorem Zda{xs:List Xg}(ho:WY xs){i:Nat}(h:i<xs.length):Xk (XW xs i)=tgI xs i:=by
 rw[Jt h,Zar h];exact JI (fun v hv=>(ho.tgt _ (List.getElem_mem h) v hv).1)
structure Fl2(p:Ug)(gi ci:Nat->Nat)(nx:Nat->Value)(ds:List Nat)(W:World)(WI:Nat->Nat->Nat):Prop where
 low:Below p.w.heap.size p.w W
 sz:p.M<=W.heap.size
 f0:W.cell? ⟨p.w.heap.size,0,none⟩=some (.int .i64 (p.V:Int))
 r0:W.cell? ⟨p.w.heap.size+1,0,none⟩=some (.slice none 0 0)
 r1:W.cell? ⟨p.w.heap.size+1,1,none⟩=some (.slice none 0 0)
 rz:∀q,W.frozen? ⟨p.w.heap.size+1,q,none⟩=false
 l0:W.cell? ⟨p.LB,0,none⟩=some (.slice (some ⟨p.Gi,0,none⟩) p.n p.n)
 l1:W.cell? ⟨p.LB,1,none⟩=some (.slice (some ⟨p.Go,0,none⟩) p.n p.n)
 out:XI W p.Go p.n p.Kw p.go (fun _=>p.Kw) p.WO
 inn:XI W p.Gi p.n p.Kw gi ci WI
 igM:∀i,i<p.n->p.M<=gi i
 nxr:W.rowIs p.Gn 40 p.n nx
 nxs:∀i,i<p.n->∃a' c',nx i=.slice a' (tgI p.xs i).length c'/\Wz W (fun b=>p.M<=b) a' (tgI p.xs i)
 mks:UQ W p.M ds
 wi:XV WI
 ord:∃ord:List Nat,(∀b,b<p.n->b∈ord)/\∀b,b<p.n->∀x,x<64*p.Kw->(Xf (WI b) x=true↔Sp (I0 p.xs p.WO) (T0 p.xs) (·∈ord) (XW p.xs) b x)
theorem FlK.spread{p:Ug}{W:World}{d:FlD}{ds:List Nat}(h:FlK p W p.n d)(s:FlS p)(q:FlQ p p.n d)(hm:UQ W p.M ds)(ho:UF p.V p.xs)(hn:p.n=p.xs.length)(hwo:XV p.WO)(hKw:p.Kw<=100) :
 ∃g C,d.vS=.slice (some ⟨g,0,none⟩) d.Lf.length C/\Calls Tryd.prog 45 #[.slice (some ⟨g,0,none⟩) d.Lf.length C,.slice (some ⟨p.Gn,0,none⟩) p.n p.n,.slice (some ⟨p.Gi,0,none⟩) p.n p.n,.slice (some ⟨p.Gd,0,none⟩) p.n p.n] W.drew fun e w'=>e=.returned (.tuple #[])/\(∃WI,Fl2 p d.gi d.ci d.nx ds w' WI)/\(∀b,b<W.heap.size->b<p.M->w'.heap[b]?=W.heap[b]?):=by
 have hz:=h.sz;have hn1:1<=p.n:=by have:=ho.okf.n1;omega
 have hn2:p.n<=1000:=by have:=ho.okf.n2;omega
 have hL0:0<d.Lf.length:=List.length_pos_of_mem (q.mem 0 (q.sn 0 (by omega)));have hLn:d.Lf.length<=1000:=by have:=q.len;omega
 obtain⟨g,C,hv,hg,_⟩:=Xh h.sea.own hL0;refine⟨g,C,hv,?_⟩;have hown:=h.sea.own;rw[hv,show Zv d.Lf=(Xk d.Lf).map (Value.int .i64) by simp[Zv,Xk]]at hown;obtain⟨a1,c1,e1,hi1⟩:=Xn hown;injection e1 with e1 e2 e3;subst e1;have a1':=s.a1;have a5':=s.a5;have a8':=s.a8;have a9':=s.a9;have HI:XI W p.Gi p.n p.Kw d.gi d.ci (I0 p.xs p.WO):=⟨h.inr.congr (fun i hi=>by rw[if_pos hi]),fun i hi=>by rw[Zht (by omega),<-q.wi i (by omega) hi];exact h.ins i hi,h.inj,fun i hi e=>by have:=h.igM i hi;omega⟩;have HT:XI W p.Gd p.n p.Kw p.gd (fun _=>p.Kw) (T0 p.xs):=h.defs.congr (fun i hi=>by rw[ZgW (by omega),q.wd i (by omega),if_pos hi]);have hrow:∀i,i<p.n->W.cell? ⟨p.Gn,0+i,none⟩=some (d.nx i):=fun i hi=>by
  rw[Nat.zero_add];exact(h.nxr.cell hi).trans (by rw[if_pos hi])
 have hsrc:ZgY W (fun k=>∀i,i<p.n->k≠d.gi i) (some ⟨p.Gn,0,none⟩) ((Zal p.xs).map Xk):=fun i hi=>by
  have hi':i<p.xs.length:=by simpa [Zal]using hi
  have hin:i<p.n:=by omega
  obtain⟨a',c',e,hp⟩:=h.nxs i hin;have eg:((Zal p.xs).map Xk)[i]=tgI p.xs i:=by
   simp only[List.getElem_map,Zal,List.getElem_range];exact Zda ho.okf hi'
  refine⟨p.Gn,0,rfl,⟨fun j hj e=>by have:=h.igM j hj;omega,h.nxr.lt⟩,a',c',?_,?_⟩
  ·rw[eg,hrow i hin,e]
  ·rw[eg]
   intro j hj;obtain⟨b,o,e2,hb,hc⟩:=hp j hj;exact⟨b,o,e2,⟨hb.1.2.1,hb.2⟩,hc⟩
 refine(Vu g 0 d.Lf.length C d.Lf p.M W.heap.size (some ⟨p.Gn,0,none⟩) p.n p.n (Zal p.xs) p.Gi p.Gd p.n p.Kw d.gi p.gd d.ci (fun _=>p.Kw) (I0 p.xs p.WO) (T0 p.xs) W.drew (Xa hi1) (Xa rfl) hLn hL0 (Xa hsrc) (Xa (by simp[Zal];exact hn)) (Xa (by simp[Zal];exact hn.symm)) hKw (Nat.le_refl _) (Xa ⟨HI.row,fun i hi=>(HI.set i hi).drew,HI.inj,HI.out⟩) (Xa ⟨HT.row,fun i hi=>(HT.set i hi).drew,HT.inj,HT.out⟩) (Xa (ZiA hwo)) (Xa Zit) (Xa (fun i hi=>by have:=h.igM i hi;omega)) (Xa (fun i j hi hj=>by have:=h.igM j hj;have:=s.a6 i hi;omega)) (Xa q.lt) (Xa (fun l hl=>?_))).mono ?_
 ·obtain⟨i,hi,rfl⟩:=List.mem_map.1 hl
  have hi':=List.mem_range.1 hi;refine⟨?_,fun t ht=>by have:=ho.okf.tg i hi' t ht;omega⟩;rw[Jt hi',List.length_map];have:=Zah p.xs[i].term;omega
 ·rintro e w' ⟨rfl,hf,Ws,hwd,hset,hiff⟩
  have hf':VX W w' p.n d.gi:=⟨hf.os,hf.tape,hf.output,hf.size,hf.block⟩;have lo:∀b,b<p.M->w'.heap[b]?=W.heap[b]?:=fun b hb=>hf'.block b (by omega) (fun i hi e=>by have:=h.igM i hi;omega)
  have hw:=h.low.size;have a2':=s.a2;have a3':=s.a3;refine⟨rfl,⟨Ws,⟨⟨hf'.os.trans h.low.os,hf'.tape.trans h.low.tape,hf'.output.trans h.low.output,Nat.le_trans hw hf'.size,fun b hb=>(lo b (by omega)).trans (h.low.block b hb)⟩,Nat.le_trans hz hf'.size,(Xc (lo _ (by omega))).trans h.f0,(Xc (lo _ (by omega))).trans h.r0,(Xc (lo _ (by omega))).trans h.r1,fun o=>by rw[World.frozen?_of_block (a:=⟨p.w.heap.size+1,o,none⟩) (lo (p.w.heap.size+1) (by omega))];exact h.rz o,(Xc (lo _ (by omega))).trans h.l0,(Xc (lo _ (by omega))).trans h.l1,⟨h.out.row.of_block (lo _ (by omega)),fun i hi=>(h.out.set i hi).of_block (lo _ (by have:=s.a4 i hi;omega)),h.out.inj,h.out.out⟩,hset,h.igM,(h.nxr.of_block (lo _ (by omega))).congr (fun i hi=>by rw[if_pos hi]),fun i hi=>?_,⟨hm.nd,hm.ge,fun D hD=>?_⟩,hwd,d.Lf,fun b hb=>q.mem b (q.sn b hb),fun b hb x hx=>?_⟩⟩,fun b h1 h2=>lo b h2⟩
  ·obtain⟨a',c',e,hp⟩:=h.nxs i hi
   refine⟨a',c',e,fun j hj=>?_⟩;obtain⟨b,o,e2,hb,hc⟩:=hp j hj;exact⟨b,o,e2,⟨hb.1.1,Nat.lt_of_lt_of_le hb.2 hf'.size⟩,(Xc (hf'.block b hb.2 hb.1.2.1)).trans hc⟩
  ·have hD':=hm.obj D hD
   refine(hf'.block D (Array.getElem?_eq_some_iff.1 hD').1 (fun i hi e=>?_)).trans hD';obtain⟨o,h3,h4⟩:=(h.ins i hi).obj;rw[<-e,hD']at h3;injection h3 with h3;rw[<-h3]at h4;cases h4
  ·rw[<-Zfl]
   exact hiff b hb x hx
def Vw(WI:Nat->Nat->Nat)(l:List Nat)(W:Nat->Nat):Nat->Nat:=l.foldl (fun W t=>butN W (WI t) (fun _=>0)) W
theorem Zax{WI:Nat->Nat->Nat}(h:XV WI):∀(l:List Nat){W:Nat->Nat},XK W->XK (Vw WI l W)
 | [],_,hW=>hW
 | t::l,_,hW=>Zax h l (Zc7 hW (h t))
theorem Zbd{WI:Nat->Nat->Nat}(h:XV WI)(x:Nat):∀(l:List Nat){W:Nat->Nat},XK W->(Xf (Vw WI l W) x=true↔Xf W x=true\/∃t∈l,Xf (WI t) x=true)
 | [],W,_=>by simp[Vw]
 | t::l,W,hW=>by
  show Xf (Vw WI l (butN W (WI t) (fun _=>0))) x=true↔_;rw[Zbd h x l (Zc7 hW (h t)),ZcR hW JW,Jj];simp only[Bool.not_false,Bool.and_true,Bool.or_eq_true,List.mem_cons,exists_eq_or_imp,or_assoc]
theorem Zdp{WI:Nat->Nat->Nat}{l:List Nat}{j:Nat}(h:j<l.length)(W:Nat->Nat):Vw WI (l.take (j+1)) W=butN (Vw WI (l.take j) W) (WI l[j]) (fun _=>0):=by
 unfold Vw;rw[List.take_succ_eq_append_getElem h,List.foldl_append];rfl
def Ud(xs:List Xg)(WI WO:Nat->Nat->Nat)(b j:Nat):Nat->Nat->Nat:=fun i=>if i<b then Vw WI (XW xs i) (WO i)else if i=b then Vw WI ((XW xs i).take j) (WO i)else WO i
theorem ZcN{xs:List Xg}{WI WO:Nat->Nat->Nat}(h:XV WI)(hO:XV WO)(b j:Nat):XV (Ud xs WI WO b j):=fun i=>by
 unfold Ud;split
 ·exact Zax h _ (hO i)
 ·split
  ·exact Zax h _ (hO i)
  ·exact hO i
structure Fl3(p:Ug)(gi ci:Nat->Nat)(ds:List Nat)(WI:Nat->Nat->Nat)(W2:World)(gN:Nat)(wr:World)(b j:Nat):Prop where
 os:wr.os=W2.os
 tape:wr.tape=W2.tape
 output:wr.output=W2.output
 size:W2.heap.size<=wr.heap.size
 fr:∀q,q<W2.heap.size->(∀i,i<p.n->q≠p.go i)->wr.heap[q]?=W2.heap[q]?
 out:XI wr p.Go p.n p.Kw p.go (fun _=>p.Kw) (Ud p.xs WI p.WO b j)
theorem Fl3.start{p:Ug}{gi ci:Nat->Nat}{nx:Nat->Value}{ds:List Nat}{WI:Nat->Nat->Nat}{W W2:World}{gN:Nat}(h:Fl2 p gi ci nx ds W WI)(k:Below W.heap.size W W2):Fl3 p gi ci ds WI W2 gN W2 0 0 :=
 ⟨rfl,rfl,rfl,Nat.le_refl _,fun _ _ _=>rfl,(h.out.keep k).congr (fun i _=>by unfold Ud;by_cases e:i=0<;>simp[e,Vw])⟩
theorem Fl3.row{p:Ug}{gi ci:Nat->Nat}{ds:List Nat}{WI:Nat->Nat->Nat}{W2 wr:World}{gN b j:Nat}(h:Fl3 p gi ci ds WI W2 gN wr b j)(hj:(XW p.xs b).length<=j):Fl3 p gi ci ds WI W2 gN wr (b+1) 0 :=
 ⟨h.os,h.tape,h.output,h.size,h.fr,h.out.congr (fun i _=>by
  unfold Ud;by_cases e1:i<b
  ·rw[if_pos e1,if_pos (by omega)]
  ·by_cases e2:i=b
   ·rw[if_neg e1,if_pos e2,if_pos (by omega),e2,List.take_of_length_le hj]
   ·rw[if_neg e1,if_neg e2,if_neg (by omega)]
    by_cases e3:i=b+1
    ·rw[if_pos e3];simp[Vw]
    ·rw[if_neg e3])⟩
theorem Fl3.next{p:Ug}{gi ci:Nat->Nat}{ds:List Nat}{WI:Nat->Nat->Nat}{W2 wr w1:World}{gN b j:Nat}(h:Fl3 p gi ci ds WI W2 gN wr b j)(hb:b<p.n)(hj:j<(XW p.xs b).length)(k:wr.grownBy w1 (some (p.go b)))(hw:WsAt w1 (p.go b) p.Kw p.Kw (butN (Ud p.xs WI p.WO b j b) (WI (XW p.xs b)[j]) (fun _=>0))):Fl3 p gi ci ds WI W2 gN w1 b (j+1):=by
 refine⟨k.os.trans h.os,k.tape.trans h.tape,k.output.trans h.output,Nat.le_trans h.size k.size,fun q h1 h2=>(k.block q (Nat.lt_of_lt_of_le h1 h.size) (fun e=>h2 b hb (by injection e))).trans (h.fr q h1 h2),(h.out.wrote hb k hw).congr (fun i _=>?_)⟩;by_cases e:i=b
 ·subst e
  simp only[Ud,Nat.lt_irrefl,if_false,if_true];rw[Zdp hj]
 ·unfold Ud
  rw[if_neg e];by_cases e1:i<b
  ·rw[if_pos e1,if_pos e1]
  ·rw[if_neg e1,if_neg e1,if_neg e,if_neg e]
theorem Fl3.res{p:Ug}{gi ci:Nat->Nat}{nx:Nat->Value}{ds:List Nat}{WI:Nat->Nat->Nat}{W W2 wr w':World}{gN:Nat}(h:Fl3 p gi ci ds WI W2 gN wr p.n 0)(h2:Fl2 p gi ci nx ds W WI)(s:FlS p)(k2:Below W.heap.size W W2)(hn:p.n=p.xs.length)(hwo:XV p.WO)(hhas:∀b,b<p.n->∀v,Xf (p.WO b) v=true↔(b,v)∈Wa p.xs p.n)
 (hk:∀q,q<wr.heap.size->q≠p.w.heap.size+1->q<p.M\/(∃i,i<p.n/\q=gi i)->w'.heap[q]?=wr.heap[q]?) (ho:w'.os=wr.os) (htp:w'.tape=wr.tape) (hou:w'.output=wr.output) (hz:wr.heap.size<=w'.heap.size):FlR p.w w' p.n p.Kw p.xs p.Gi p.Go gi p.go ci WI (Ud p.xs WI p.WO p.n 0):=by
 have hzw:=h2.low.size;have a1:=s.a1;have a3:=s.a3;have a5:=s.a5;have a9:=s.a9;have hM:=h2.sz;have hz2:=k2.size;have hz3:=h.size;have lo:∀q,q<p.M->q≠p.w.heap.size+1->(∀i,i<p.n->q≠p.go i)->w'.heap[q]?=W.heap[q]?:=fun q h1 h3 h4=>(hk q (by omega) h3 (Or.inl h1)).trans ((h.fr q (by omega) h4).trans (k2.block q (by omega)))
 refine⟨⟨ho.trans (h.os.trans (k2.os.trans h2.low.os)),htp.trans (h.tape.trans (k2.tape.trans h2.low.tape)),hou.trans (h.output.trans (k2.output.trans h2.low.output)),by omega,fun q hq=>(lo q (by omega) (by omega) (fun i hi e=>by have:=s.a4 i hi;omega)).trans (h2.low.block q hq)⟩,⟨h2.inn.row.of_block (lo p.Gi (by omega) (by omega) (fun i hi e=>(s.d4 i hi).1 e.symm)),fun i hi=>?_,h2.inn.inj,h2.inn.out⟩,⟨h.out.row.of_block (hk p.Go (by omega) (by omega) (Or.inl (by omega))),fun i hi=>(h.out.set i hi).of_block (hk _ (by have:=s.a4 i hi;omega) (by have:=s.a4 i hi;omega) (Or.inl (by have:=s.a4 i hi;omega))),h.out.inj,h.out.out⟩,h2.wi,ZcN h2.wi hwo _ _,⟨by omega,by omega⟩,fun i hi=>⟨by have:=h2.igM i hi;omega,by have:=s.a4 i hi;omega⟩,?_⟩
 ·have hg:=h2.igM i hi
  have hl:=(h2.inn.set i hi).lt;refine(h2.inn.set i hi).of_block ((hk (gi i) (by omega) (by omega) (Or.inr ⟨i,hi,rfl⟩)).trans ((h.fr (gi i) (by omega) (fun j hj e=>by have:=s.a4 j hj;omega)).trans (k2.block _ hl)))
 ·obtain⟨ord,h3,h4⟩:=h2.ord
  refine⟨I0 p.xs p.WO,T0 p.xs,p.WO,ord,fun i hi=>Zht hi,fun i hi=>ZgW hi,fun b hb v=>by rw[<-hn];exact hhas b (by omega) v,fun b hb=>h3 b (by omega),h4,fun b hb x=>?_⟩;unfold Ud;rw[if_pos hb];exact Zbd h2.wi x _ (hwo b)
theorem UO{F:Fence}{n:Nat}{P:Program}{fn:Func}{tmps:Array Value}{R:Ending->World->Prop}{B:Nat}:∀(ds:List Nat)(W:World),UQ W B ds->(∀W':World,W'.os=W.os->W'.tape=W.tape->W'.output=W.output->W.heap.size<=W'.heap.size->(∀k,k ∉ ds->W'.heap[k]?=W.heap[k]?)->∃v,(results fn tmps).run P W'=.ok v W'/\R (.returned v) W')->LeavesInM F n P fn tmps R (mks ds) .returning W
 | [],W,_,h=>h W rfl rfl rfl (Nat.le_refl _) (fun _ _=>rfl)
 | D::ds,W,hm,h=>by
  refine⟨by simp,Or.inl ⟨D,_,rfl,run_takeDeferred (hm.obj D List.mem_cons_self),?_⟩⟩;have hg:=grownBy_putObj' W D (.deferred none);refine UO (B:=B) ds _ ⟨(List.nodup_cons.1 hm.nd).2,fun k hk=>hm.ge k (List.mem_cons_of_mem _ hk),fun k hk=>?_⟩ (fun W' k1 k2 k3 k4 k5=>h W' (k1.trans hg.os) (k2.trans hg.tape) (k3.trans hg.output) (Nat.le_trans hg.size k4) (fun q hq=>?_))
  ·exact(World.putObj_heap_other (fun e=>(List.nodup_cons.1 hm.nd).1 (by rw[<-e];exact hk))).trans (hm.obj k (List.mem_cons_of_mem _ hk))
  ·have h1:q≠D/\q ∉ ds:=by simpa using hq
   exact(k5 q h1.2).trans (World.putObj_heap_other h1.1)
end Go.Proofs.YtbofmlmdgkblkaaDoor
