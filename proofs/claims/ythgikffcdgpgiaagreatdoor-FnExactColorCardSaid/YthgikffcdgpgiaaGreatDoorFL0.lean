import Derived.Test.YthgikffcdgpgiaaGreatDoorSV0
import Derived.Test.YthgikffcdgpgiaaGreatDoorBI2
import Derived.Test.YthgikffcdgpgiaaGreatDoorSLR
namespace Go.Proofs.YthgikffcdgpgiaaGreatDoor
set_option maxHeartbeats 1000000
open Go.RowKit Go.Shelf
structure FlA(w Y:World)(V:Nat)(a:Option Addr)(n c Kw:Nat)(xs:List Xi)(Gi LB Go:Nat)(go:Nat->Nat)(WO:Nat->Nat->Nat):Prop where
 low:Below w.heap.size w Y
 f0:Y.cell? ⟨w.heap.size,0,none⟩=some (.int .i64 (V:Int))
 f1:Y.cell? ⟨w.heap.size,1,none⟩=some (.slice a n c)
 r0:Y.cell? ⟨w.heap.size+1,0,none⟩=some (.slice none 0 0)
 r1:Y.cell? ⟨w.heap.size+1,1,none⟩=some (.slice none 0 0)
 rz:∀q,Y.frozen? ⟨w.heap.size+1,q,none⟩=false
 gi:Y.rowIs Gi 75 n (fun _=>.slice none 0 0)
 l0:Y.cell? ⟨LB,0,none⟩=some (.slice (some ⟨Gi,0,none⟩) n n)
 l1:Y.cell? ⟨LB,1,none⟩=some (.slice (some ⟨Go,0,none⟩) n n)
 out:X0 Y Go n Kw go (fun _=>Kw) WO
 wd:XA WO
 has:∀b,b<n->∀v,Xf (WO b) v=true↔(b,v)∈Uj xs n
 b1:w.heap.size+2<=Gi
 b2:w.heap.size+2<=LB
 b3:w.heap.size+2<=Go
 b4:∀i,i<n->w.heap.size+2<=go i
 d1:Gi≠LB
 d2:Gi≠Go
 d3:LB≠Go
 d4:∀i,i<n->go i≠Gi/\go i≠LB
theorem Wj(F:Fence)(n:Nat)(h6:F.fn 97)(hro:F.round=none)(v0 v1 v2 v3 v4 v5:Value)(w:World) :
 CallsIn F n Tryz.prog 97 #[.agg #[v0,v1,v2,v3,v4,v5]] w fun e w'=>e=.returned (.func (.func 124) #[] #[.pointer (some ⟨w.heap.size,0,none⟩)])/\w'=w.alloc (.cells #[v0,v1,v2,v3,v4,v5] 57):=by
 refine callsIn_of_wp Tryz.func97 rfl h6 ?_ hro;simp only[Tryz.ntmps97,List.size_toArray,List.length_cons,List.length_nil,Nat.reduceAdd,Nat.reduceSub,Array.replicate_succ,Array.replicate_zero,List.push_toArray,List.append_toArray,List.nil_append,List.cons_append]
 gi_wp2
 go_ret
 exact⟨rfl,rfl⟩
theorem X0.setCell{w:World}{G n K:Nat}{gs cp:Nat->Nat}{Ws:Nat->Nat->Nat}(h:X0 w G n K gs cp Ws)(p:Addr)(v:Value)(h1:p.block≠G)(h2:∀i,i<n->p.block≠gs i):X0 (w.setCell p v) G n K gs cp Ws :=
 ⟨h.row.setOther (fun e=>h1 e.symm) v,fun i hi=>(h.set i hi).setOther (fun e=>h2 i hi e.symm) v,h.inj,h.out⟩
theorem ZhJ{w w1 X:World}{V:Nat}{a:Option Addr}{n c Kw:Nat}{xs:List Xi}{Gi LB Go:Nat}{go:Nat->Nat}{WO:Nat->Nat->Nat}(hw1:Below w.heap.size w w1)(hz:w1.heap.size=w.heap.size+2)(HBX:Below w1.heap.size w1 X)
 (f0:w1.cell? ⟨w.heap.size,0,none⟩=some (.int .i64 (V:Int))) (f1:w1.cell? ⟨w.heap.size,1,none⟩=some (.slice a n c)) (r0:w1.cell? ⟨w.heap.size+1,0,none⟩=some (.slice none 0 0)) (r1:w1.cell? ⟨w.heap.size+1,1,none⟩=some (.slice none 0 0)) (rz:∀q,w1.frozen? ⟨w.heap.size+1,q,none⟩=false)
 (GI:X.rowIs Gi 75 n (fun _=>.slice none 0 0)) (LBX:X.rowIs LB 115 2 (fun _=>.slice none 0 0)) (SO:X0 X Go n Kw go (fun _=>Kw) WO) (wd:XA WO) (hh:∀b,b<n->∀v,Xf (WO b) v=true↔(b,v)∈Uj xs n)
 (b1:w.heap.size+2<=Gi) (b2:w.heap.size+2<=LB) (b3:w.heap.size+2<=Go) (b4:∀i,i<n->w.heap.size+2<=go i) (hne:Go≠LB/\Gi≠LB/\Gi≠Go/\∀i,i<n->go i≠Gi/\go i≠LB) :
 FlA w ((X.setCell ⟨LB,0,none⟩ (.slice (some ⟨Gi,0,none⟩) n n)).setCell ⟨LB,1,none⟩ (.slice (some ⟨Go,0,none⟩) n n)) V a n c Kw xs Gi LB Go go WO:=by
 have hl:=(LBX.set 0 (.slice (some ⟨Gi,0,none⟩) n n)).set 1 (.slice (some ⟨Go,0,none⟩) n n);have hc:∀p:Addr,p.block<w1.heap.size->p.block≠LB->((X.setCell ⟨LB,0,none⟩ (.slice (some ⟨Gi,0,none⟩) n n)).setCell ⟨LB,1,none⟩ (.slice (some ⟨Go,0,none⟩) n n)).cell? p=w1.cell? p:=fun p h1 h2 =>
  (World.cell?_setCell_far _ _ _ _ (fun e=>h2 e.symm)).trans ((World.cell?_setCell_far _ _ _ _ (fun e=>h2 e.symm)).trans (HBX.cell h1))
 refine⟨((Xe hw1 HBX).setCell (by show w.heap.size<=LB;omega) _).setCell (by show w.heap.size<=LB;omega) _,(hc _ (by show w.heap.size<_;omega) (by show w.heap.size≠LB;omega)).trans f0,(hc _ (by show w.heap.size<_;omega) (by show w.heap.size≠LB;omega)).trans f1,(hc _ (by show w.heap.size+1<_;omega) (by show w.heap.size+1≠LB;omega)).trans r0,(hc _ (by show w.heap.size+1<_;omega) (by show w.heap.size+1≠LB;omega)).trans r1,fun q=>?_,(GI.setOther hne.2.1 _).setOther hne.2.1 _,(hl.cell (i:=0) vZ).trans sP,(hl.cell (i:=1) vZ).trans sP,(SO.setCell _ _ (fun e=>hne.1 e.symm) (fun i hi e=>(hne.2.2.2 i hi).2 e.symm)).setCell _ _ (fun e=>hne.1 e.symm) (fun i hi e=>(hne.2.2.2 i hi).2 e.symm),wd,hh,b1,b2,b3,b4,hne.2.1,hne.2.2.1,fun e=>hne.1 e.symm,hne.2.2.2⟩;exact(World.frozen?_setCell _ _ _ _).trans ((World.frozen?_setCell _ _ _ _).trans ((HBX.frozen (p:=⟨w.heap.size+1,q,none⟩) (by show w.heap.size+1<_;omega)).trans (rz q)))
structure KW where
 w:World
 V:Nat
 n:Nat
 c:Nat
 Kw:Nat
 K2:Nat
 a:Option Addr
 xs:List Xi
 Gi:Nat
 LB:Nat
 Go:Nat
 DB:Nat
 Gd:Nat
 Gn:Nat
 bS:Nat
 gS:Nat
 sA:Nat
 s3:Nat
 M:Nat
 go:Nat->Nat
 gd:Nat->Nat
 WO:Nat->Nat->Nat
structure FlD where
 gi:Nat->Nat
 ci:Nat->Nat
 WI:Nat->Nat->Nat
 WD:Nat->Nat->Nat
 nx:Nat->Value
 Ws:Nat->Nat
 vS:Value
 Lf:List Nat
structure FlS(p:KW):Prop where
 a1:p.w.heap.size+2<=p.Gi/\p.Gi<p.sA
 a2:p.w.heap.size+2<=p.LB/\p.LB<p.sA
 a3:p.w.heap.size+2<=p.Go/\p.Go<p.sA
 a4:∀i,i<p.n->p.w.heap.size+2<=p.go i/\p.go i<p.sA
 d1:p.Gi≠p.LB
 d2:p.Gi≠p.Go
 d3:p.LB≠p.Go
 d4:∀i,i<p.n->p.go i≠p.Gi/\p.go i≠p.LB
 a5:p.sA<=p.Gd/\p.Gd<p.s3
 a6:∀i,i<p.n->p.sA<=p.gd i/\p.gd i<p.s3
 a7:p.DB=p.s3
 a8:p.Gn=p.s3+1
 a9:p.s3+2<=p.bS/\p.bS<p.M
 a10:p.s3+2<=p.gS/\p.gS<p.M
 a11:p.bS≠p.gS
def Wm(xs:List Xi)(i:Nat):List Int:=(xs[i]?).elim [] fun x=>x.term.targets
theorem TI{xs:List Xi}{i:Nat}(h:i<xs.length):Wm xs i=xs[i].term.targets:=by simp[Wm,h]
structure FlK(p:KW)(W:World)(k:Nat)(d:FlD):Prop where
 low:Below p.w.heap.size p.w W
 sz:p.M<=W.heap.size
 f0:W.cell? ⟨p.w.heap.size,0,none⟩=some (.int .i64 (p.V:Int))
 f1:W.cell? ⟨p.w.heap.size,1,none⟩=some (.slice p.a p.n p.c)
 r0:W.cell? ⟨p.w.heap.size+1,0,none⟩=some (.slice none 0 0)
 r1:W.cell? ⟨p.w.heap.size+1,1,none⟩=some (.slice none 0 0)
 rz:∀q,W.frozen? ⟨p.w.heap.size+1,q,none⟩=false
 l0:W.cell? ⟨p.LB,0,none⟩=some (.slice (some ⟨p.Gi,0,none⟩) p.n p.n)
 l1:W.cell? ⟨p.LB,1,none⟩=some (.slice (some ⟨p.Go,0,none⟩) p.n p.n)
 d0:W.cell? ⟨p.DB,0,none⟩=some (.slice (some ⟨p.Gd,0,none⟩) p.n p.n)
 out:X0 W p.Go p.n p.Kw p.go (fun _=>p.Kw) p.WO
 inr:W.rowIs p.Gi 75 p.n (fun i=>if i<k then .slice (some ⟨d.gi i,0,none⟩) p.Kw (d.ci i)else .slice none 0 0)
 ins:∀i,i<k->WsAt W (d.gi i) p.Kw (d.ci i) (d.WI i)
 inj:∀i j,i<k->j<k->d.gi i=d.gi j->i=j
 igM:∀i,i<k->p.M<=d.gi i
 defs:X0 W p.Gd p.n p.Kw p.gd (fun _=>p.Kw) d.WD
 nxr:W.rowIs p.Gn 26 p.n (fun i=>if i<k then d.nx i else .slice none 0 0)
 nxs:∀i,i<k->∃a' c',d.nx i=.slice a' (Wm p.xs i).length c'/\XW W (fun b=>p.M<=b/\(∀j,j<k->b≠d.gi j)/\some b≠d.vS.ownBlock) a' (Wm p.xs i)
 sea:Yu W p.bS p.gS p.M p.K2 p.a p.n p.c d.Ws d.vS d.Lf
 giv:∀i,i<k->some (d.gi i)≠d.vS.ownBlock
def U6{α:Type}(f:Nat->α)(k:Nat)(v:α):Nat->α:=fun i=>if i=k then v else f i
theorem YF{α:Type}(f:Nat->α)(k:Nat)(v:α):U6 f k v k=v:=by simp[U6]
theorem Yw{α:Type}(f:Nat->α)(k:Nat)(v:α){i:Nat}(h:i≠k):U6 f k v i=f i:=by simp[U6,h]
theorem FlK.next{p:KW}{W W':World}{k:Nat}{d:FlD}(h:FlK p W k d)(s:FlS p)(hk:k<p.n){gB CB:Nat}{I' D':Nat->Nat}{nk v':Value}{Ws':Nat->Nat}{Lf':List Nat}
 (hos:W'.os=W.os) (htp:W'.tape=W.tape) (hop:W'.output=W.output) (hsz:W.heap.size<=W'.heap.size)
 (fr:∀q,q<W.heap.size->q≠p.Gi->q≠p.gd k->q≠p.Gn->q≠p.bS->q≠p.gS->some q≠d.vS.ownBlock->W'.heap[q]?=W.heap[q]?)
 (hgB:W.heap.size<=gB) (hI:WsAt W' gB p.Kw CB I') (hGi:W'.rowIs p.Gi 75 p.n (fun i=>if i=k then .slice (some ⟨gB,0,none⟩) p.Kw CB else if i<k then .slice (some ⟨d.gi i,0,none⟩) p.Kw (d.ci i)else .slice none 0 0))
 (hD:WsAt W' (p.gd k) p.Kw p.Kw D') (hGn:W'.rowIs p.Gn 26 p.n (fun i=>if i=k then nk else if i<k then d.nx i else .slice none 0 0))
 (hnk:∃a' c',nk=.slice a' (Wm p.xs k).length c'/\XW W' (fun b=>W.heap.size<=b/\b≠gB/\some b≠v'.ownBlock) a' (Wm p.xs k))
 (hs:Yu W' p.bS p.gS p.M p.K2 p.a p.n p.c Ws' v' Lf') (hv:v'.ownBlock=d.vS.ownBlock\/∀q,v'.ownBlock=some q->W.heap.size<=q) (hvB:some gB≠v'.ownBlock) :
 FlK p W' (k+1) ⟨U6 d.gi k gB,U6 d.ci k CB,U6 d.WI k I',U6 d.WD k D',U6 d.nx k nk,Ws',v',Lf'⟩:=by
 have hvM:∀q,d.vS.ownBlock=some q->p.M<=q:=fun q e=>(h.sea.own.lt q e).1
 have hM:=s.a9;have hM2:=s.a10;have hG:=s.a5;have hz:=h.sz;have hw:=h.low.size;have h7:=s.a7;have h8:=s.a8;have hgk:=s.a6 k hk;have lowb:∀q,q<p.M->q≠p.Gi->q≠p.gd k->q≠p.Gn->q≠p.bS->q≠p.gS->W'.heap[q]?=W.heap[q]?:=fun q h1 h2 h3 h4 h5 h6=>fr q oM h2 h3 h4 h5 h6 (fun e=>by have:=hvM q e.symm;omega)
 have a1:=s.a1;have a2:=s.a2;have a3:=s.a3;have cA:∀q o v,q<p.sA->q≠p.Gi->W.cell? ⟨q,o,none⟩=some v->W'.cell? ⟨q,o,none⟩=some v:=fun q o v h1 h2 hc=>(Xc (lowb q oM h2 oM oM oM oM)).trans hc
 have up:∀q,p.M<=q->q<W.heap.size->some q≠d.vS.ownBlock->W'.heap[q]?=W.heap[q]?:=fun q h1 h2 h3=>fr q h2 oM oM oM oM oM h3
 refine⟨⟨hos.trans h.low.os,htp.trans h.low.tape,hop.trans h.low.output,Nat.le_trans hw hsz,fun q hq=>(lowb q oM oM oM oM oM oM).trans (h.low.block q hq)⟩,Nat.le_trans hz hsz,cA _ _ _ oM oM h.f0,cA _ _ _ oM oM h.f1,cA _ _ _ oM oM h.r0,cA _ _ _ oM oM h.r1,fun q=>?rz,cA _ _ _ a2.2 (fun e=>s.d1 e.symm) h.l0,cA _ _ _ a2.2 (fun e=>s.d1 e.symm) h.l1,(Xc (lowb p.DB oM oM oM oM oM oM)).trans h.d0,?out,?inr,?ins,?inj,?igM,?defs,?nxr,?nxs,hs,?giv⟩
 case rz=>rw[World.frozen?_of_block (a:=⟨p.w.heap.size+1,q,none⟩) (lowb (p.w.heap.size+1) oM oM oM oM oM oM)];exact h.rz q
 case out =>
  refine⟨h.out.row.of_block (lowb p.Go oM (fun e=>s.d2 e.symm) oM oM oM oM),fun i hi=>?_,h.out.inj,h.out.out⟩;have:=s.a4 i hi;exact(h.out.set i hi).of_block (lowb _ oM (s.d4 i hi).1 oM oM oM oM)
 case inr =>
  refine hGi.congr (fun i _=>?_);by_cases e:i=k
  ·rw[if_pos e,if_pos oM,e];simp only[YF]
  ·rw[if_neg e]
   by_cases e2:i<k
   ·rw[if_pos e2,if_pos oM];simp only[Yw _ _ _ e]
   ·rw[if_neg e2,if_neg oM]
 case ins =>
  intro i hi;by_cases e:i=k
  ·subst e;simp only[YF];exact hI
  ·have hi2:i<k:=oM
   simp only[Yw _ _ _ e];exact(h.ins i hi2).of_block (up _ (h.igM i hi2) (h.ins i hi2).lt (h.giv i hi2))
 case inj =>
  intro i j hi hj e;by_cases e1:i=k
  ·by_cases e2:j=k
   ·omega
   ·simp only[e1,YF,Yw _ _ _ e2]at e
    have:=(h.ins j oM).lt;omega
  ·by_cases e2:j=k
   ·simp only[e2,YF,Yw _ _ _ e1]at e
    have:=(h.ins i oM).lt;omega
   ·simp only[Yw _ _ _ e1,Yw _ _ _ e2]at e
    exact h.inj i j oM oM e
 case igM =>
  intro i hi;by_cases e:i=k
  ·subst e;simp only[YF];omega
  ·simp only[Yw _ _ _ e];exact h.igM i oM
 case defs =>
  refine⟨h.defs.row.of_block (lowb p.Gd oM oM (fun e=>h.defs.out k hk e.symm) oM oM oM),fun i hi=>?_,h.defs.inj,h.defs.out⟩;by_cases e:i=k
  ·subst e;simp only[YF];exact hD
  ·simp only[Yw _ _ _ e]
   have:=s.a6 i hi;exact(h.defs.set i hi).of_block (lowb _ oM oM (fun e2=>e (h.defs.inj i k hi hk e2)) oM oM oM)
 case nxr =>
  refine hGn.congr (fun i _=>?_);by_cases e:i=k
  ·rw[if_pos e,if_pos oM,e];simp only[YF]
  ·rw[if_neg e]
   by_cases e2:i<k
   ·rw[if_pos e2,if_pos oM];simp only[Yw _ _ _ e]
   ·rw[if_neg e2,if_neg oM]
 case nxs =>
  intro i hi;by_cases e:i=k
  ·subst e
   simp only[YF];obtain⟨a',c',e1,h1⟩:=hnk;refine⟨a',c',e1,fun q hq=>?_⟩;obtain⟨b,o,e2,hb,hc⟩:=h1 q hq;refine⟨b,o,e2,⟨⟨oM,fun j hj=>?_,hb.1.2.2⟩,hb.2⟩,hc⟩;by_cases ej:j=i
   ·rw[ej];simp only[YF];exact hb.1.2.1
   ·simp only[Yw _ _ _ ej]
    have:=(h.ins j oM).lt;omega
  ·have hi2:i<k:=oM
   simp only[Yw _ _ _ e];obtain⟨a',c',e1,h1⟩:=h.nxs i hi2;refine⟨a',c',e1,fun q hq=>?_⟩;obtain⟨b,o,e2,hb,hc⟩:=h1 q hq;refine⟨b,o,e2,⟨⟨hb.1.1,fun j hj=>?_,fun ev=>?_⟩,oM⟩,(Xc (up b hb.1.1 hb.2 hb.1.2.2)).trans hc⟩
   ·by_cases ej:j=k
    ·rw[ej];simp only[YF];omega
    ·simp only[Yw _ _ _ ej]
     exact hb.1.2.1 j oM
   ·rcases hv with hv | hv
    ·rw[hv]at ev;exact hb.1.2.2 ev
    ·have:=hv b ev.symm;omega
 case giv =>
  intro i hi;by_cases e:i=k
  ·subst e;simp only[YF];exact hvB
  ·have hi2:i<k:=oM
   simp only[Yw _ _ _ e];intro ev;rcases hv with hv | hv
   ·rw[hv]at ev;exact h.giv i hi2 ev
   ·have:=hv _ ev.symm;have:=(h.ins i hi2).lt;omega
theorem ZdE{w Y w3 W0:World}{V:Nat}{a:Option Addr}{n c Kw:Nat}{xs:List Xi}{Gi LB Go:Nat}{go:Nat->Nat}{WO:Nat->Nat->Nat}(h:FlA w Y V a n c Kw xs Gi LB Go go WO){Gd:Nat}{gd:Nat->Nat}(hGd:Y.heap.size<=Gd)(hb3:Below Y.heap.size Y w3)(hs3:X0 w3 Gd n Kw gd (fun _=>Kw) (fun _ _=>0))(hgd:∀i,i<n->Y.heap.size<=gd i)
 {bS gS:Nat} (hbS:w3.heap.size+2<=bS) (hgS:w3.heap.size+2<=gS) (hb6:Below (w3.heap.size+2) ((w3.alloc (.cells #[.slice (some ⟨Gd,0,none⟩) n n] 113)).alloc (.cells (madeCells #[.slice none 0 0] n) 26)) W0) (hsea:Yu W0 bS gS W0.heap.size ((n+63) / 64) a n c (fun _=>0) (.slice none 0 0) []) :
 FlS ⟨w,V,n,c,Kw,(n+63) / 64,a,xs,Gi,LB,Go,w3.heap.size,Gd,w3.heap.size+1,bS,gS,Y.heap.size,w3.heap.size,W0.heap.size,go,gd,WO⟩/\FlK ⟨w,V,n,c,Kw,(n+63) / 64,a,xs,Gi,LB,Go,w3.heap.size,Gd,w3.heap.size+1,bS,gS,Y.heap.size,w3.heap.size,W0.heap.size,go,gd,WO⟩ W0 0 ⟨fun _=>0,fun _=>0,fun _ _=>0,fun _ _=>0,fun _=>.slice none 0 0,fun _=>0,.slice none 0 0,[]⟩:=by
 have hz3:=hb3.size;have hw5:((w3.alloc (.cells #[.slice (some ⟨Gd,0,none⟩) n n] 113)).alloc (.cells (madeCells #[.slice none 0 0] n) 26)).heap.size=w3.heap.size+2:=sP;have h35:Below w3.heap.size w3 ((w3.alloc (.cells #[.slice (some ⟨Gd,0,none⟩) n n] 113)).alloc (.cells (madeCells #[.slice none 0 0] n) 26)):=Xb (Xb (Below.refl _ _) _) _;have hz6:w3.heap.size+2<=W0.heap.size:=by have:=hb6.size;omega
 have hB36:Below w3.heap.size w3 W0:=h35.trans (hb6.mono oM);have hBY:Below Y.heap.size Y W0:=Xe hb3 hB36;have hwY:=h.low.size;have gi:=h.gi.lt;have gl:=World.block_lt_of_cell? Y _ h.l0;have gg:=h.out.row.lt;have b1:=h.b1;have b2:=h.b2;have b3:=h.b3;have hnr:((w3.alloc (.cells #[.slice (some ⟨Gd,0,none⟩) n n] 113)).alloc (.cells (madeCells #[.slice none 0 0] n) 26)).rowIs (w3.heap.size+1) 26 n (fun _=>.slice none 0 0):=by
  have:=World.rowIs_made (w3.alloc (.cells #[.slice (some ⟨Gd,0,none⟩) n n] 113)) (.slice none 0 0) n 26;rwa[World.size_alloc]at this
 have cY:∀p:Addr,p.block<Y.heap.size->W0.cell? p=Y.cell? p:=fun p hp=>hBY.cell hp
 have gl':LB<Y.heap.size:=gl;refine⟨⟨⟨b1,gi⟩,⟨b2,gl⟩,⟨b3,gg⟩,fun i hi=>⟨h.b4 i hi,(h.out.set i hi).lt⟩,h.d1,h.d2,h.d3,h.d4,⟨hGd,hs3.row.lt⟩,fun i hi=>⟨hgd i hi,(hs3.set i hi).lt⟩,rfl,rfl,⟨hbS,hsea.lb⟩,⟨hgS,hsea.lg⟩,hsea.ne⟩,?_⟩;refine⟨Xe h.low hBY,Nat.le_refl _,(cY _ (by show w.heap.size<_;omega)).trans h.f0,(cY _ (by show w.heap.size<_;omega)).trans h.f1,(cY _ (by show w.heap.size+1<_;omega)).trans h.r0,(cY _ (by show w.heap.size+1<_;omega)).trans h.r1,fun q=>(hBY.frozen (p:=⟨w.heap.size+1,q,none⟩) (by show w.heap.size+1<_;omega)).trans (h.rz q),(cY _ gl').trans h.l0,(cY _ gl').trans h.l1,(hb6.cell (p:=⟨w3.heap.size,0,none⟩) (by show w3.heap.size<_;omega)).trans (by simp[go_sem]),h.out.keep hBY,(h.gi.of_block (hBY.block _ gi)).congr (fun i _=>sP),fun i hi=>absurd hi oM,fun i j hi=>absurd hi oM,fun i hi=>absurd hi oM,hs3.keep hB36,(hnr.of_block (hb6.block _ oM)).congr (fun i _=>sP),fun i hi=>absurd hi oM,hsea,fun i hi=>absurd hi oM⟩
theorem ZcZ(tg:Nat->List Nat):∀(m b:Nat)(s:(Nat->Nat) × List Nat)(P:List Nat),(∀x,Xf s.1 x=true->x∈s.2\/x∈P)->∀x,Xf (dfsV tg m b s).1 x=true->x∈(dfsV tg m b s).2\/x∈P
 | 0,_,_,_,h=>h
 | m+1,b,s,P,h=>by
  by_cases hs:Xf s.1 b=true
  ·rw[Tl hs];exact h
  ·have hs':Xf s.1 b=false:=by simpa using hs
   have hf:∀(l:List Nat)(s':(Nat->Nat) × List Nat),(∀x,Xf s'.1 x=true->x∈s'.2\/x∈b::P)->∀x,Xf (l.foldl (fun s t=>dfsV tg m t s) s').1 x=true->x∈(l.foldl (fun s t=>dfsV tg m t s) s').2\/x∈b::P:=by
    intro l
    induction l with
    | nil=>exact fun _ h=>h
    | cons t l ih=>exact fun s' h'=>ih _ (ZcZ tg m t s' (b::P) h')
   rw[Vo hs'];intro x hx;rcases hf (tg b) (Yn s.1 b,s.2) (fun y hy=>by
    rw[YR,Bool.or_eq_true,decide_eq_true_eq]at hy;rcases hy with rfl | hy
    ·exact Or.inr sP
    ·rcases h y hy with h1 | h1
     ·exact Or.inl h1
     ·exact Or.inr (by simp[h1])) x hx with h1 | h1
   ·exact Or.inl (by simp[h1])
   ·rcases List.mem_cons.1 h1 with rfl | h1
    ·exact Or.inl sP
    ·exact Or.inr h1
theorem Zdg(tg:Nat->List Nat){n:Nat}(ht:∀b,b<n->∀t∈tg b,t<n):∀(m b:Nat)(s:(Nat->Nat) × List Nat),b<n->(∀x∈s.2,x<n)->∀x∈(dfsV tg m b s).2,x<n
 | 0,_,_,_,h=>h
 | m+1,b,s,hb,h=>by
  by_cases hs:Xf s.1 b=true
  ·rw[Tl hs];exact h
  ·have hs':Xf s.1 b=false:=by simpa using hs
   have hf:∀(l:List Nat)(s':(Nat->Nat) × List Nat),(∀t∈l,t<n)->(∀x∈s'.2,x<n)->∀x∈(l.foldl (fun s t=>dfsV tg m t s) s').2,x<n:=by
    intro l
    induction l with
    | nil=>exact fun _ _ h=>h
    | cons t l ih=>exact fun s' hl h'=>ih _ (fun q hq=>hl q (by simp[hq])) (Zdg tg ht m t s' (hl t sP) h')
   rw[Vo hs'];intro x hx;rcases List.mem_append.1 hx with hx | hx
   ·exact hf (tg b) (Yn s.1 b,s.2) (ht b hb) h x hx
   ·have:x=b:=by simpa using hx
    omega
theorem Zc5(tg:Nat->List Nat){n m b:Nat}{s:(Nat->Nat) × List Nat}(hb:b<n)(hm:Xv s.1 n<=m):Xf (dfsV tg m b s).1 b=true:=by
 cases m with
 | zero=>exact Jc tg 0 b s b (JZ oM hb)
 | succ m =>
  by_cases hs:Xf s.1 b=true
  ·exact Jc tg _ b s b hs
  ·have hs':Xf s.1 b=false:=by simpa using hs
   rw[Vo hs'];exact Km tg m _ _ b (by rw[YR];simp)
def Kz(W:Nat->Nat)(q:Nat × List Int × List Int):Nat->Nat:=addsN (delsN W (Xt q.2.2)) (Xt q.2.1)
def KA(W:Nat->Nat)(q:Nat × List Int × List Int):Nat->Nat:=addsN W (Xt q.2.2)
def inW(x:Xi)(W:Nat->Nat):Nat->Nat:=(plL x).foldl Kz W
def dfW(x:Xi):Nat->Nat:=(plL x).foldl KA (fun _=>0)
theorem ZhB(x:Xi){W:Nat->Nat}(h:Xw W):Xw (inW x W):=by
 unfold inW;generalize plL x=l
 induction l generalizing W with
 | nil=>exact h
 | cons q l ih=>exact ih (YE _ (ZJ _ h))
theorem ZM:Xw (fun _=>0):=fun _=>by show 0<_;decide
theorem ZaJ(l:List (Nat × List Int × List Int)){W:Nat->Nat}(h:Xw W):Xw (l.foldl KA W):=by
 induction l generalizing W with
 | nil=>exact h
 | cons q l ih=>exact ih (YE _ h)
theorem Zix(x:Xi):Xw (dfW x):=ZaJ _ ZM
structure FlQ(p:KW)(k:Nat)(d:FlD):Prop where
 wi:∀i (h:i<p.xs.length),i<k->d.WI i=inW p.xs[i] (p.WO i)
 wd:∀i (h:i<p.xs.length),d.WD i=if i<k then dfW p.xs[i]else fun _=>0
 mem:∀x,Xf d.Ws x=true->x∈d.Lf
 sn:∀i,i<k->Xf d.Ws i=true
 lt:∀x∈d.Lf,x<p.n
 wok:Xw d.Ws
 len:d.Lf.length+Xv d.Ws p.n<=p.n
theorem Zd9(p:KW):FlQ p 0 ⟨fun _=>0,fun _=>0,fun _ _=>0,fun _ _=>0,fun _=>.slice none 0 0,fun _=>0,.slice none 0 0,[]⟩ :=
 ⟨fun i _ h=>absurd h oM,fun i _=>sP,fun x h=>by simp[Ze]at h,fun i h=>absurd h oM,fun x h=>absurd h List.not_mem_nil,ZM,by simpa using YT (fun _=>0) p.n⟩
theorem FlQ.next{p:KW}{k:Nat}{d:FlD}(h:FlQ p k d)(hk:k<p.n)(ht:∀b,b<p.n->∀t∈Xx p.xs b,t<p.n)(gi ci:Nat->Nat)(nx:Nat->Value)(v:Value){I' D':Nat->Nat}(hkx:k<p.xs.length)(hI:I'=inW p.xs[k] (p.WO k))(hD:D'=dfW p.xs[k]) :
 FlQ p (k+1) ⟨gi,ci,U6 d.WI k I',U6 d.WD k D',nx,(dfsV (Xx p.xs) p.n k (d.Ws,d.Lf)).1,v,(dfsV (Xx p.xs) p.n k (d.Ws,d.Lf)).2⟩:=by
 refine⟨fun i hi hik=>?_,fun i hi=>?_,fun x hx=>?_,fun i hi=>?_,?_,Zac _ _ _ _ h.wok,Nat.le_trans (WR _ _ ht _ _ _ hk) h.len⟩
 ·by_cases e:i=k
  ·subst e;simp only[YF];exact hI
  ·simp only[Yw _ _ _ e];exact h.wi i hi oM
 ·by_cases e:i=k
  ·subst e;simp only[YF];rw[if_pos oM];exact hD
  ·simp only[Yw _ _ _ e]
   rw[h.wd i hi];by_cases e2:i<k
   ·rw[if_pos e2,if_pos oM]
   ·rw[if_neg e2,if_neg oM]
 ·rcases ZcZ (Xx p.xs) p.n k (d.Ws,d.Lf) [] (fun y hy=>Or.inl (h.mem y hy)) x hx with h1 | h1
  ·exact h1
  ·cases h1
 ·by_cases e:i=k
  ·subst e;exact Zc5 _ hk (YT _ _)
  ·exact Jc _ _ _ _ _ (h.sn i oM)
 ·exact Zdg _ ht _ _ _ hk h.lt
structure FlI(w4:World)(gB gD Kw CB:Nat)(W0:Nat->Nat)(pre:List Pl)(V:World):Prop where
 os:V.os=w4.os
 tape:V.tape=w4.tape
 output:V.output=w4.output
 size:w4.heap.size<=V.heap.size
 fr:∀q,q<w4.heap.size->q≠gB->q≠gD->V.heap[q]?=w4.heap[q]?
 ws:WsAt V gB Kw CB ((pre.map Pl.dat).foldl Kz W0)
 wd:WsAt V gD Kw Kw ((pre.map Pl.dat).foldl KA (fun _=>0))
theorem FlI.own{w4:World}{gB gD Kw CB:Nat}{W0:Nat->Nat}(hB:gB<w4.heap.size)(hD:gD<w4.heap.size):OwnFrom w4.heap.size (FlI w4 gB gD Kw CB W0):=fun pre A V row h k q=>by
 have hz:=h.size;have hbl:∀b,b<w4.heap.size->V.heap[b]?=A.heap[b]?:=fun b hb=>k.block b oM (fun e=>by have:=(q b e.symm).1;omega)
 exact⟨k.os.trans h.os,k.tape.trans h.tape,k.output.trans h.output,Nat.le_trans hz k.size,fun b h1 h2 h3=>(hbl b h1).trans (h.fr b h1 h2 h3),h.ws.of_block (hbl gB hB),h.wd.of_block (hbl gD hD)⟩
theorem FlI.below{w4:World}{gB gD Kw CB:Nat}{W0:Nat->Nat}(hB:gB<w4.heap.size)(hD:gD<w4.heap.size){pre:List Pl}{V V':World}(h:FlI w4 gB gD Kw CB W0 pre V)(k:Below V.heap.size V V'):FlI w4 gB gD Kw CB W0 pre V':=Yk (FlI.own hB hD) h k
theorem Zf0(l:List (Nat × List Int × List Int)){W:Nat->Nat}(h:Xw W):Xw (l.foldl Kz W):=by
 induction l generalizing W with
 | nil=>exact h
 | cons q l ih=>exact ih (YE _ (ZJ _ h))
theorem FlI.next{w4:World}{gB gD Kw CB:Nat}{W0:Nat->Nat}{pre:List Pl}{V V1 V2 V3:World}(h:FlI w4 gB gD Kw CB W0 pre V)(hB:gB<w4.heap.size)(hne:gB≠gD){p:Pl}
 (k1:V.grownBy V1 (some gB)) (k2:V1.grownBy V2 (some gB)) (k3:V2.grownBy V3 (some gD)) (hw:WsAt V2 gB Kw CB (Kz ((pre.map Pl.dat).foldl Kz W0) p.dat)) (hd:WsAt V3 gD Kw Kw (KA ((pre.map Pl.dat).foldl KA (fun _=>0)) p.dat)):FlI w4 gB gD Kw CB W0 (pre++[p]) V3:=by
 have hz:=h.size;have z1:=k1.size;have z2:=k2.size;have z3:=k3.size;refine⟨k3.os.trans (k2.os.trans (k1.os.trans h.os)),k3.tape.trans (k2.tape.trans (k1.tape.trans h.tape)),k3.output.trans (k2.output.trans (k1.output.trans h.output)),oM,fun q q1 q2 q3=>?_,?_,?_⟩
 ·exact(k3.block q oM (fun e=>q3 (by injection e))).trans ((k2.block q oM (fun e=>q2 (by injection e))).trans ((k1.block q oM (fun e=>q2 (by injection e))).trans (h.fr q q1 q2 q3)))
 ·rw[List.map_append,List.foldl_append]
  exact hw.of_block (k3.block gB oM (fun e=>hne (by injection e)))
 ·rw[List.map_append,List.foldl_append]
  exact hd
theorem UR{A V:World}{row:Option Nat}{n₀ B:Nat}{a:Option Addr}{xs:List Int}(h:Xg A n₀ A.heap.size a xs)(k:A.grownBy V row)(q:∀r,row=some r->B<=r/\∃o:Obj,A.heap[r]?=some o/\o.isCells=false):Xg V n₀ V.heap.size a xs:=fun i hi=>by
 obtain⟨b,o,e,hb,hc⟩:=h i hi;refine⟨b,o,e,⟨hb.1,Nat.lt_of_lt_of_le hb.2 k.size⟩,(Xc (k.block b hb.2 (fun e2=>?_))).trans hc⟩;obtain⟨ob,h1,h2⟩:=YM hc;obtain⟨_,o2,h3,h4⟩:=q b e2.symm;rw[show A.heap[b]?=some ob from h1]at h3;injection h3 with h3;subst h3;rw[h2]at h4;cases h4
theorem Uz(n n₀:Nat)(Pd:Nat × List Int × List Int->Prop):OwnFrom n (Zf4 n₀ Pd):=fun _ _ _ _ h k q=>⟨h.1,UR h.2.1 k q,UR h.2.2 k q⟩
theorem Ur{n₀:Nat}{Pd:Nat × List Int × List Int->Prop}{p:Pl}{V V':World}(h:Zf4 n₀ Pd p V)(k:Below V.heap.size V V'):Zf4 n₀ Pd p V':=Yk (Uz 0 n₀ Pd) h k
theorem Yv{A V:World}{g n₀:Nat}{a:Option Addr}{xs:List Int}(h:Xg A n₀ A.heap.size a xs)(k:A.grownBy V (some g))(hg:g<n₀):Xg V n₀ V.heap.size a xs:=fun i hi=>by
 obtain⟨b,o,e,hb,hc⟩:=h i hi;exact⟨b,o,e,⟨hb.1,Nat.lt_of_lt_of_le hb.2 k.size⟩,(Xc (k.block b hb.2 (fun e2=>by injection e2 with e2;omega))).trans hc⟩
structure PBx(n₀ bp:Nat)(p:Pl)(V:World):Prop where
 ge:n₀<=bp
 c0:V.cell? ⟨bp,0,none⟩=some (.slice p.ua p.us.length p.uc)
 c1:V.cell? ⟨bp,1,none⟩=some (.slice p.da p.ds.length p.dc)
theorem PBx.own{n n₀ bp:Nat}{p:Pl}:OwnFrom n (fun (_:Unit) V=>PBx n₀ bp p V):=fun _ A V row h k q=>by
 have hbl:V.heap[bp]?=A.heap[bp]?:=by
  obtain⟨o,h1,h2⟩:=YM h.c0;refine k.block bp (Array.getElem?_eq_some_iff.1 h1).1 (fun e=>?_);obtain⟨_,o2,h3,h4⟩:=q bp e.symm;rw[show A.heap[bp]?=some o from h1]at h3;injection h3 with h3;subst h3;rw[h2]at h4;cases h4
 exact⟨h.ge,(Xc hbl).trans h.c0,(Xc hbl).trans h.c1⟩
theorem YX{n₀:Nat}{Ms:Nat->Prop}{V V':World}{g:Nat}(k:V.grownBy V' (some g))(hg:Ms g)(hn:n₀<=V.heap.size):Zy n₀ Ms V V' :=
 ⟨k.size,fun i hi hm=>k.block i oM (fun e=>hm (by injection e with e;rw[e];exact hg)),fun i o hm h1 _=>(k.block i (Array.getElem?_eq_some_iff.1 h1).1 (fun e=>hm (by injection e with e;rw[e];exact hg))).trans h1⟩
theorem Zp{V V':World}{g:Nat}(k:V.grownBy V' (some g))(hg:∃o:Obj,V.heap[g]?=some o/\o.isCells=true):KeepsOthers V V' :=
 KeepsOthers.of_grownBy k (fun j o e h=>by
  obtain⟨o2,h1,h2⟩:=hg;injection e with e;subst e;rw[h1]at h;injection h with h;rw[<-h];exact h2)
theorem WsAt.obj{w:World}{g K C:Nat}{W:Nat->Nat}(h:WsAt w g K C W):∃o:Obj,w.heap[g]?=some o/\o.isCells=true:=by
 obtain⟨_,T,c,h1,_⟩:=h;exact⟨_,h1,rfl⟩
theorem Zd4{wr W:World}{B D:Nat}{ds:List Nat}(h:Zq wr B ds)(hB:B<=wr.heap.size)(hD:wr.heap.size<=D)(hK:W.heap[D]?=some (.deferred (some [])))(hb:∀k,B<=k->wr.heap[k]?=some (.deferred (some []))->W.heap[k]?=wr.heap[k]?):Zq W B (D::ds):=by
 have hl:∀k∈ds,k<wr.heap.size:=fun k hk=>(Array.getElem?_eq_some_iff.1 (h.obj k hk)).1
 refine⟨List.nodup_cons.2 ⟨fun k=>by have:=hl D k;omega,h.nd⟩,fun k hk=>?_,fun k hk=>?_⟩
 ·rcases List.mem_cons.1 hk with rfl | hk
  ·omega
  ·exact h.ge k hk
 ·rcases List.mem_cons.1 hk with rfl | hk
  ·exact hK
  ·exact(hb k (h.ge k hk) (h.obj k hk)).trans (h.obj k hk)
def PdV(V:Nat)(q:Nat × List Int × List Int):Prop:=(∀v∈q.2.1,0<=v/\v<V)/\(∀v∈q.2.2,0<=v/\v<V)/\q.2.1.length<=4000/\q.2.2.length<=4000
theorem Zdr{V:Nat}{xs:List Xi}(ho:ZZ V xs){x:Xi}(hx:x∈xs):∀q∈plL x,PdV V q:=fun q hq=>by
 unfold plL at hq;have hT:(rdT x.term).length<=1:=by unfold rdT;split<;>simp
 rcases List.mem_cons.1 hq with rfl | hq
 ·exact⟨ho.rdt x hx,fun v hv=>absurd hv List.not_mem_nil,by show(rdT x.term).length<=_;omega,sP⟩
 ·rcases List.mem_append.1 hq with hq | hq
  ·obtain⟨j,_,rfl⟩:=List.mem_map.1 hq
   have h1:=Zat x.instrs[j];have h2:(writesI x.instrs[j]).length<=1:=by unfold writesI;split<;>simp
   exact⟨ho.rdi x hx _ (List.getElem_mem _),ho.wri x hx _ (List.getElem_mem _),by show(rdI x.instrs[j]).length<=_;omega,by show(writesI x.instrs[j]).length<=_;omega⟩
  ·rw[List.mem_singleton.1 hq]
   refine⟨fun v hv=>absurd hv List.not_mem_nil,fun v hv=>?_,sP,?_⟩
   ·obtain⟨p,hp,rfl⟩:=List.mem_map.1 hv
    exact ho.phd x hx p hp
   ·show(x.phis.map Ph.dst).length<=_
    rw[List.length_map];exact(ho.lens x hx).2
structure FlR(w w':World)(n Kw:Nat)(xs:List Xi)(Gi Go:Nat)(gi go ci:Nat->Nat)(WI WX:Nat->Nat->Nat):Prop where
 low:Below w.heap.size w w'
 si:X0 w' Gi n Kw gi ci WI
 so:X0 w' Go n Kw go (fun _=>Kw) WX
 wi:XA WI
 wx:XA WX
 b1:w.heap.size<=Gi/\w.heap.size<=Go
 b2:∀i,i<n->w.heap.size<=gi i/\w.heap.size<=go i
 inn:∃(I T W0:Nat->Nat->Nat)(ord:List Nat),(∀i (h:i<xs.length),I i=inW xs[i] (W0 i))/\(∀i (h:i<xs.length),T i=dfW xs[i])/\(∀b,b<xs.length->∀v,Xf (W0 b) v=true↔(b,v)∈Uj xs xs.length)/\(∀b,b<xs.length->b∈ord)/\(∀b,b<n->∀x,x<64*Kw->(Xf (WI b) x=true↔Sp I T (·∈ord) (Xx xs) b x))/\∀b,b<n->∀x,(Xf (WX b) x=true↔Xf (W0 b) x=true\/∃t∈Xx xs b,Xf (WI t) x=true)
section
theorem Yr{w w':World}{base e s:Nat}{v:Value}{n:Nat}{xs:List Value}(h:w.ownsRow base e s v n xs)(hb:∀g,v.ownBlock=some g->w'.heap[g]?=w.heap[g]?):w'.ownsRow base e s v n xs:=by
 obtain⟨hl,h | ⟨g,cap,cur,rfl,hg,hh,hc,h1,hs,ht⟩⟩:=h
 ·exact⟨hl,Or.inl h⟩
 ·exact⟨hl,Or.inr ⟨g,cap,cur,rfl,hg,(hb g rfl).trans hh,hc,h1,hs,ht⟩⟩
theorem Zeb{w:World}{base e s:Nat}{v:Value}{n:Nat}{xs:List Value}(h:w.ownsRow base e s v n xs){g:Nat}(hv:v.ownBlock=some g):∃o:Obj,w.heap[g]?=some o/\o.isCells=true:=by
 obtain⟨_,h | ⟨g2,cap,cur,rfl,_,hh,_⟩⟩:=h
 ·rw[h.1]at hv;cases hv
 ·have e:g2=g:=by simpa [Value.ownBlock]using hv
  subst e;exact⟨_,hh,rfl⟩
theorem Yu.same{w w':World}{bS gS BL K:Nat}{ab:Option Addr}{nb cb:Nat}{W:Nat->Nat}{v:Value}{L:List Nat}(h:Yu w bS gS BL K ab nb cb W v L)(hb:w'.heap[bS]?=w.heap[bS]?)(hg:w'.heap[gS]?=w.heap[gS]?)(ho:∀g,v.ownBlock=some g->w'.heap[g]?=w.heap[g]?)(hz:w.heap.size<=w'.heap.size):Yu w' bS gS BL K ab nb cb W v L:=by
 have ce:∀q,w'.cell? ⟨bS,q,none⟩=w.cell? ⟨bS,q,none⟩:=fun q=>World.cell?_of_block hb
 exact⟨(ce 0).trans h.c0,(ce 1).trans h.c1,(ce 2).trans h.c2,fun q=>(World.frozen?_of_block hb).trans (h.thaw q),h.row.of_block hg,Yr h.own ho,h.lb,h.lg,h.ne,Nat.le_trans h.sz hz⟩
section
variable {p : KW} {wr w4 W w5 : World} {k : Nat} {d : FlD} {gB CB : Nat} {ps : List Pl} {u5 : Value}
theorem Zbl(hF4:∀q,q<wr.heap.size->q≠p.Gi->w4.heap[q]?=wr.heap[q]?)(hz4:wr.heap.size<=w4.heap.size)(hgB:wr.heap.size<=gB)(hI:FlI w4 gB (p.gd k) p.Kw CB (p.WO k) ps W)(hb5:Below W.heap.size W w5) :
 ∀q,q<wr.heap.size->q≠p.Gi->q≠p.gd k->q≠p.Gn->(w5.setCell ⟨p.Gn,k,none⟩ u5).heap[q]?=wr.heap[q]?:=fun q h1 h2 h3 h4=>by
 have:=hI.size;exact(Below.heap_setCell _ _ _ _ h4).trans ((hb5.block q oM).trans ((hI.fr q oM oM h3).trans (hF4 q h1 h2)))
theorem Zd3(h:FlK p wr k d)(s:FlS p)(hk:k<p.n)(hF4:∀q,q<wr.heap.size->q≠p.Gi->w4.heap[q]?=wr.heap[q]?)(hz4:wr.heap.size<=w4.heap.size)(hgB:wr.heap.size<=gB)(hI:FlI w4 gB (p.gd k) p.Kw CB (p.WO k) ps W)(hb5:Below W.heap.size W w5) :
 Yu (w5.setCell ⟨p.Gn,k,none⟩ u5) p.bS p.gS p.M p.K2 p.a p.n p.c d.Ws d.vS d.Lf:=by
 have hz:=h.sz;have fr:=Zbl (u5:=u5) hF4 hz4 hgB hI hb5;have a1:=s.a1;have a5:=s.a5;have a6:=s.a6 k hk;have a8:=s.a8;have a9:=s.a9;have a10:=s.a10;have hz1:=hI.size;have hz5:=hb5.size;refine h.sea.same (fr _ oM oM oM oM) (fr _ oM oM oM oM) (fun g e=>?_) (by rw[Xd];omega);have:=h.sea.own.lt g e;exact fr g oM oM oM oM
theorem FlK.round{w7:World}{X:Xi}{D:Nat}{ds:List Nat}{a5:Option Addr}{c5:Nat}{v':Value}(h:FlK p wr k d)(s:FlS p)(hq:FlQ p k d)(hm:Zq wr p.M ds)(hk:k<p.n)(hkx:k<p.xs.length)(ht:∀b,b<p.n->∀t∈Xx p.xs b,t<p.n)
 (hF4:∀q,q<wr.heap.size->q≠p.Gi->w4.heap[q]?=wr.heap[q]?) (hE4:w4.os=wr.os/\w4.tape=wr.tape/\w4.output=wr.output) (hz4:wr.heap.size<=w4.heap.size) (hgB:wr.heap.size<=gB) (hgB4:gB<w4.heap.size)
 (hGi:w4.rowIs p.Gi 75 p.n (fun i=>if i=k then .slice (some ⟨gB,0,none⟩) p.Kw CB else if i<k then .slice (some ⟨d.gi i,0,none⟩) p.Kw (d.ci i)else .slice none 0 0))
 (hI:FlI w4 gB (p.gd k) p.Kw CB (p.WO k) ps W) (hS:ps.map Pl.dat=plL X) (hX:X=p.xs[k]) (hD:w4.heap.size<=D) (hKD:W.heap[D]?=some (.deferred (some [])))
 (hb5:Below W.heap.size W w5) (hi5:Xg w5 W.heap.size w5.heap.size a5 X.term.targets)
 (hf:Tt (w5.setCell ⟨p.Gn,k,none⟩ (.slice a5 X.term.targets.length c5)) w7 p.bS p.gS d.vS v') (hs:Yu w7 p.bS p.gS p.M p.K2 p.a p.n p.c (dfsV (Xx p.xs) p.n k (d.Ws,d.Lf)).1 v' (dfsV (Xx p.xs) p.n k (d.Ws,d.Lf)).2) :
 ∃d',FlK p w7 (k+1) d'/\FlQ p (k+1) d'/\Zq w7 p.M (D::ds):=by
 have hz:=h.sz;have fr:=Zbl (u5:=.slice a5 X.term.targets.length c5) hF4 hz4 hgB hI hb5;have a1:=s.a1;have a5':=s.a5;have a6:=s.a6 k hk;have a8:=s.a8;have a9:=s.a9;have a10:=s.a10;have hz1:=hI.size;have hz5:=hb5.size;have hz6:=hf.size;rw[Xd]at hz6;have hvl:∀g,d.vS.ownBlock=some g->p.M<=g/\g<wr.heap.size:=fun g e=>h.sea.own.lt g e
 have hvo:∀g,v'.ownBlock=some g->d.vS.ownBlock=some g\/w5.heap.size<=g:=fun g e=>by
  rcases hf.own with q | q
  ·exact Or.inl (by rw[<-q];exact e)
  ·have:=q g e;rw[Xd]at this;exact Or.inr this
 have hDl:D<W.heap.size:=(Array.getElem?_eq_some_iff.1 hKD).1;have up:∀q,wr.heap.size<=q->q<w5.heap.size->w7.heap[q]?=w5.heap[q]?:=fun q h1 h2=>(hf.block q (by rw[Xd];exact h2) oM oM (fun e=>by have:=hvl q e.symm;omega)).trans (Below.heap_setCell _ _ _ _ (by show q≠p.Gn;omega))
 have lo:∀q,q<wr.heap.size->q≠p.Gn->q≠p.bS->q≠p.gS->some q≠d.vS.ownBlock->w7.heap[q]?=W.heap[q]?:=fun q h1 h2 h3 h4 h5=>(hf.block q (by rw[Xd];omega) h3 h4 h5).trans ((Below.heap_setCell _ _ _ _ h2).trans (hb5.block q oM))
 have hown:∀q,q<p.M->some q≠d.vS.ownBlock:=fun q hq e=>by have:=hvl q e.symm;omega
 have hfr:∀q,q<wr.heap.size->q≠p.Gi->q≠p.gd k->q≠p.Gn->q≠p.bS->q≠p.gS->some q≠d.vS.ownBlock->w7.heap[q]?=wr.heap[q]?:=fun q h1 h2 h3 h4 h5 h6 h7=>(hf.block q (by rw[Xd];omega) h5 h6 h7).trans (fr q h1 h2 h3 h4)
 have hwI:(ps.map Pl.dat).foldl Kz (p.WO k)=inW p.xs[k] (p.WO k):=by rw[hS,<-hX];rfl
 have hwD:(ps.map Pl.dat).foldl KA (fun _=>0)=dfW p.xs[k]:=by rw[hS,<-hX];rfl
 have hIw:WsAt w7 gB p.Kw CB (inW p.xs[k] (p.WO k)):=by
  rw[<-hwI];exact hI.ws.of_block ((up gB hgB oM).trans (hb5.block gB oM))
 have hDw:WsAt w7 (p.gd k) p.Kw p.Kw (dfW p.xs[k]):=by
  rw[<-hwD];exact hI.wd.of_block (lo _ oM oM oM oM (hown _ oM))
 have hGi7:=(hGi.of_block (hI.fr p.Gi oM oM oM)).of_block (lo p.Gi oM oM oM oM (hown _ oM));have hGn5:w5.rowIs p.Gn 26 p.n (fun i=>if i<k then d.nx i else .slice none 0 0):=by
  refine((h.nxr.of_block (hF4 p.Gn oM oM)).of_block (hI.fr p.Gn oM oM oM)).of_block (hb5.block p.Gn oM)
 have hGn7:=(hGn5.set k (.slice a5 X.term.targets.length c5)).of_block (hf.block p.Gn (by rw[Xd];omega) oM oM (hown _ oM));have htg:Wm p.xs k=X.term.targets:=by rw[TI hkx,hX]
 refine⟨_,h.next s hk (gB:=gB) (CB:=CB) (I':=inW p.xs[k] (p.WO k)) (D':=dfW p.xs[k]) (nk:=.slice a5 X.term.targets.length c5) (v':=v') (Ws':=(dfsV (Xx p.xs) p.n k (d.Ws,d.Lf)).1) (Lf':=(dfsV (Xx p.xs) p.n k (d.Ws,d.Lf)).2) (hf.os.trans (hb5.os.trans (hI.os.trans hE4.1))) (hf.tape.trans (hb5.tape.trans (hI.tape.trans hE4.2.1))) (hf.output.trans (hb5.output.trans (hI.output.trans hE4.2.2))) oM hfr hgB hIw hGi7 hDw hGn7 ⟨a5,c5,by rw[htg],?_⟩ hs ?_ ?_,hq.next hk ht _ _ _ _ hkx rfl rfl,Zd4 hm hz oM ?_ ?_⟩
 ·rw[htg]
  intro i hi;obtain⟨b,o,e,hb,hc⟩:=hi5 i hi;refine⟨b,o,e,⟨⟨oM,oM,fun e2=>?_⟩,oM⟩,(Xc (up b oM hb.2)).trans hc⟩;rcases hvo b e2.symm with q | q
  ·have:=hvl b q;omega
  ·omega
 ·rcases hf.own with q | q
  ·exact Or.inl q
  ·exact Or.inr (fun g e=>by have:=q g e;rw[Xd]at this;omega)
 ·intro e
  rcases hvo gB e.symm with q | q
  ·have:=hvl gB q;omega
  ·omega
 ·exact(up D oM oM).trans ((hb5.block D hDl).trans hKD)
 ·intro q h1 h2
  have hql:q<wr.heap.size:=(Array.getElem?_eq_some_iff.1 h2).1;refine hfr q hql oM oM oM oM oM (fun e=>?_);obtain⟨o,h3,h4⟩:=Zeb h.sea.own e.symm;rw[h2]at h3;injection h3 with h3;rw[<-h3]at h4;cases h4
end
end
end Go.Proofs.YthgikffcdgpgiaaGreatDoor
