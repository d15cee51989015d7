import Derived.RangeFuncNested
import Derived.RangeFuncBound
import Derived.RangeFuncCalls
import Derived.RangeFuncLeaves
import Derived.Test.YtbofmlmdgkblkaaDoorW6b
import Derived.Shelf.Abstract
import Derived.Shelf.RegionOpen
import Derived.OwnWalkIn
import Derived.TacticsInMore
import Derived.LoopNIn
import Derived.LoopIn
namespace Go.Proofs.YtbofmlmdgkblkaaDoor
open Go.RowKit
variable {F : Fence} {n : Nat} {P : Program} {α : Type}
def Zic(F:Fence)(n:Nat)(P:Program)(g:Nat)(lb:Array Value)(encs:α->Array Value)(Px:α->World->Prop)(Kp:World->World->Prop)(S:List α->Prop)(N:Nat)(w:World):Prop :=
 ∀(l:Nat)(J:List α->World->Prop)(W:World),Below w.heap.size w W->l<W.heap.size->OwnFrom W.heap.size J ->
  (∀pre x V,J pre V->Px x V->pre.length<N->YieldAt F (n-1) P l (encs x) V fun e V'=>e=.returned (.bool true)/\J (pre++[x]) V'/\Kp V V'/\KeepsFrom W.heap.size V V') ->
  J [] W->CallsIn F n P g (#[.func (.yield l) #[] #[]]++lb) W fun e V=>(∃v,e=.returned v)/\∃xs,S xs/\J xs V
def JT(fn:FuncId)(tm:Array Value)(ps:Array Tmp)(asg bo:Code)(D:Nat)(st:LoopState)(pe:Option Code):Loop:={ state:=st,pending:=pe,fn,tmps:=tm,params:=ps,assign:=asg,body:=bo,defers:=D }
def YJ(W:World)(D:Nat)(r:Loop):Prop:=W.heap[D+1]?=some (.loop r)/\W.heap[D]?=some (.deferred (some []))
theorem YJ.put{W:World}{D:Nat}{r:Loop}(h:YJ W D r)(r':Loop):YJ (W.putObj (D+1) (.loop r')) D r' :=
 ⟨World.putObj_heap_same (Array.getElem?_eq_some_iff.1 h.1).1,(World.putObj_heap_other (by omega)).trans h.2⟩
theorem YJ.own{W V:World}{D:Nat}{r:Loop}{row:Option Nat}(h:YJ W D r)(g:W.grownBy V row)(hr:∀k,row=some k->D+2<=k):YJ V D r :=
 ⟨(g.block _ (Array.getElem?_eq_some_iff.1 h.1).1 (fun e=>by have:=hr _ e.symm;omega)).trans h.1,(g.block _ (Array.getElem?_eq_some_iff.1 h.2).1 (fun e=>by have:=hr _ e.symm;omega)).trans h.2⟩
theorem YJ.keeps{W V:World}{D:Nat}{r:Loop}(h:YJ W D r)(k:KeepsOthers W V):YJ V D r:=⟨k.same _ _ h.1 rfl,k.same _ _ h.2 rfl⟩
theorem YJ.fin{W:World}{D:Nat}{fn:FuncId}{tm:Array Value}{ps:Array Tmp}{asg bo:Code}(h:YJ W D (JT fn tm ps asg bo D .busy none))(j:Option Code):(Instr.endRound (D+1) j).run P W=.ok (.bool j.isNone) (W.putObj (D+1) (.loop (JT fn tm ps asg bo D (if j.isNone then .ready else .done) j))):=run_endRound j h.1
theorem ZfA{g:Operand}{ps:Array Tmp}{asg bo:Code}{Q:Exit->Act->World->Prop}{a:Act}{w:World}(hro:F.round=none)(h1:1<=n){gf:Nat}{lb:Array Value}(hg:a.eval g=.func (.func gf) #[] lb)(hFg:F.fn gf)(eg:∀args w,(callFunc gf args).run P w=.ok (.enter gf args) w)
 {encs:α->Array Value} {Px:α->World->Prop} {Kp:World->World->Prop} {S:List α->Prop} {N:Nat} {w0:World} (hseq:Zic F (n-1) P gf lb encs Px Kp S N w0) (hPx:OwnFrom w.heap.size Px) (hKt:∀{A B C:World},Kp A B->Kp B C->Kp A C) (hKb:∀(W:World)(l:Nat)(o o':Obj),w.heap.size<=l->W.heap[l]?=some o->o.isCells=false->Kp W (W.putObj l o')) (hb0:Below w0.heap.size w0 w) (hps:∀x,(encs x).size=ps.size)
 (I:List α->World->Prop) (hI:OwnFrom w.heap.size I) (h0:I [] w) (Ax:α->Act->World->Prop) (hAx:∀x a',OwnFrom w.heap.size (fun (_:Unit) W=>Ax x a' W))
 (hassign:∀(l:Nat)(pre:List α)(x:α)(W:World)(K:Act->World->Prop),I pre W->Px x W->(∀a' W',KeepsOthers W W'->Kp W W'->I pre W'->Px x W'->Ax x a' W'->K a' W')->asg.wpIn (F.inRound l) (n-1-1) P (Exit.then K (fun _ _ _=>False)) { tmps:=(ps.zip (encs x)).foldl (fun t (p,v)=>t.setIfInBounds p v) a.tmps,defers:=[] } W)
 (hbody:∀(l:Nat)(pre:List α)(x:α)(a':Act)(W:World),I pre W->Px x W->Ax x a' W->pre.length<N->bo.wpIn (F.inRound l) (n-1-1) P (ownPostK Kp I (fun _ _ _=>False) (pre++[x]) W) a' W)
 (hdone:∀(D:Nat)(xs:List α)(W:World),w.heap.size<=D->S xs->I xs W->W.heap[D]?=some (.deferred (some []))->Q .normal { a with defers:={ target:=.collected D,args:=#[] } :: a.defers } W) :
 (Code.rangeFunc g ps asg bo).wpIn F n P Q a w:=by
 refine wpIn_rangeFunc (fun fn hfn=>?_);rw[hro];have hrun:=run_enterLoop_outer (P:=P) (w:=w) fn a.tmps ps asg bo;generalize hW:(w.alloc (.deferred (some []))).alloc (.loop { state:=.ready,pending:=none,fn,tmps:=a.tmps,params:=ps,assign:=asg,body:=bo,defers:=w.heap.size })=W1 at hrun;have hR1:YJ W1 w.heap.size (JT fn a.tmps ps asg bo w.heap.size .ready none):=by
  subst hW;refine⟨?_,?_⟩
  ·have:=World.alloc_heap_new (w.alloc (.deferred (some []))) (.loop (JT fn a.tmps ps asg bo w.heap.size .ready none))
   rwa[World.size_alloc]at this
  ·exact(Below.heap_alloc _ _ _ (by simp)).trans (World.alloc_heap_new w _)
 have hz1:W1.heap.size=w.heap.size+2:=by subst hW;simp
 have hI1:I [] W1:=by subst hW;exact hI.alloc _ (hI.alloc _ h0)
 have hB1:Below w0.heap.size w0 W1:=by
  subst hW;exact hb0.trans ((Xb (Xb (Below.refl w.heap.size w) _) _).mono hb0.size)
 clear hW;refine⟨_,_,W1,{ target:=.fn (.func gf) lb,args:=#[.func (.yield (w.heap.size+1)) #[] #[]] },W1,gf,#[.func (.yield (w.heap.size+1)) #[] #[]]++lb,W1,hrun,?_,?_,?_,fun _=>h1,?_⟩
 ·simp only[resolve,hg]
  simp[go_sem]
 ·intro f' hf'
  simp[Target.leads]at hf';subst hf';exact hFg
 ·simp[invoke,go_sem,eg]
 ·have ow:∀{r:Loop}{A V:World}{row:Option Nat},YJ A w.heap.size r->A.grownBy V row->(∀k,row=some k->W1.heap.size<=k/\∃o:Obj,A.heap[k]?=some o/\o.isCells=false)->YJ V w.heap.size r:=fun h k q=>h.own k (fun z e=>by have:=(q z e).1;omega)
  have fr:∀{A:World}{row:Option Nat},(∀k,row=some k->W1.heap.size<=k/\∃o:Obj,A.heap[k]?=some o/\o.isCells=false)->∀k,row=some k->w.heap.size<=k/\∃o:Obj,A.heap[k]?=some o/\o.isCells=false:=fun q k e=>⟨by have:=(q k e).1;omega,(q k e).2⟩
  refine(hseq (w.heap.size+1) (fun pre W=>I pre W/\YJ W w.heap.size (JT fn a.tmps ps asg bo w.heap.size .ready none)) W1 hB1 (by omega)
   (fun s A V row hs k q=>⟨hI s A V row hs.1 k (fr q),ow hs.2 k q⟩) ?_ ⟨hI1,hR1⟩).mono ?_
  ·rintro pre x W ⟨hi,hr⟩ hpx hlen
   have hy:(Instr.yield (w.heap.size+1) (encs x)).run P W=_:=run_yield (P:=P) hr.1 (hps x);refine⟨_,_,_,_,hy,roundIn_of_wpIn hfn (hassign _ pre x W _ hi hpx (fun a' W' hko hkp hi' hpx' hax=>?_))⟩;have hr':=hr.keeps hko;refine⟨_,run_beginRound hr'.1 rfl,?_⟩;have hrb:YJ (W'.putObj (w.heap.size+1) (.loop (JT fn a.tmps ps asg bo w.heap.size .busy none))) w.heap.size (JT fn a.tmps ps asg bo w.heap.size .busy none):=hr'.put _;have hkb:Kp W (W'.putObj (w.heap.size+1) (.loop (JT fn a.tmps ps asg bo w.heap.size .busy none))):=hKt hkp (hKb _ _ _ _ (by omega) hr'.1 rfl);refine wpIn_mono (hbody _ pre x a' _ (hI.putObj _ hi' (by omega) hr'.1 rfl) (hPx.putObj _ hpx' (by omega) hr'.1 rfl) ((hAx x a').putObj (s:=()) _ hax (by omega) hr'.1 rfl) hlen) ?_;rintro e a3 V hp;cases e with
   | normal =>
    have hv:=hrb.keeps hp.1;exact⟨_,_,hv.fin none,⟨rfl,⟨hI.putObj _ hp.2.2 (by omega) hv.1 rfl,hv.put _⟩,hKt (hKt hkb hp.2.1) (hKb _ _ _ _ (by omega) hv.1 rfl),(((hko.from _).trans (KeepsFrom.of_grownBy (grownBy_putObj' W' _ _) (fun j e=>by cases e;omega))).trans (hp.1.from _)).trans (KeepsFrom.of_grownBy (grownBy_putObj' V _ _) (fun j e=>by cases e;omega))⟩⟩
   | ret=>exact hp.2.elim
   | exit id=>exact hp.2.elim
   | goto t=>exact hp.2.elim
   | panic ch=>exact hp.elim
   | outgrown=>exact hp.elim
  ·rintro e V ⟨⟨v,rfl⟩,xs,hS,hi,hr⟩
   exact⟨none,_,run_endLoop hr.1 (by simp[JT]),hdone _ xs _ (Nat.le_refl _) hS (hI.putObj _ hi (by omega) hr.1 rfl) (hr.put _).2⟩
end Go.Proofs.YtbofmlmdgkblkaaDoor
namespace Go.Proofs.YtbofmlmdgkblkaaDoor
set_option maxRecDepth 100000
set_option maxHeartbeats 2000000
open Go.RowKit Go.Shelf
attribute [local go_sem] Oper.semAt_some
structure ZG(n₀:Nat)(Ms:Nat->Prop)(V V':World):Prop where
 size:V.heap.size<=V'.heap.size
 low:∀k,k<n₀->¬Ms k->V'.heap[k]?=V.heap[k]?
 cells:∀(k:Nat)(o:Obj),¬Ms k->V.heap[k]?=some o->o.isCells=true->V'.heap[k]?=some o
theorem ZG.refl{n₀:Nat}{Ms:Nat->Prop}(V:World):ZG n₀ Ms V V:=⟨Nat.le_refl _,fun _ _ _=>rfl,fun _ _ _ h _=>h⟩
theorem ZG.trans{n₀:Nat}{Ms:Nat->Prop}{A B C:World}(h:ZG n₀ Ms A B)(k:ZG n₀ Ms B C):ZG n₀ Ms A C :=
 ⟨Nat.le_trans h.size k.size,fun i hi hm=>(k.low i hi hm).trans (h.low i hi hm),fun i o hm h1 h2=>k.cells i o hm (h.cells i o hm h1 h2) h2⟩
theorem ZG.putObj{n₀:Nat}{Ms:Nat->Prop}(W:World)(l:Nat)(o o':Obj)(hl:n₀<=l)(h:W.heap[l]?=some o)(ho:o.isCells=false):ZG n₀ Ms W (W.putObj l o'):=by
 have hg:=grownBy_putObj' W l o';refine⟨hg.size,fun k hk _=>?_,fun k o2 _ h1 h2=>?_⟩
 ·exact World.putObj_heap_other (by omega)
 ·exact(World.putObj_heap_other (fun e=>by subst e;rw[h]at h1;injection h1 with h1;subst h1;rw[ho]at h2;cases h2)).trans h1
theorem ZG.of_below{n₀:Nat}{Ms:Nat->Prop}{V V':World}(h:Below V.heap.size V V')(hn:n₀<=V.heap.size):ZG n₀ Ms V V' :=
 ⟨h.size,fun k hk _=>h.block k (by omega),fun k o _ h1 _=>(h.block k (Array.getElem?_eq_some_iff.1 h1).1).trans h1⟩
theorem YM{V:World}{p:Addr}{v:Value}(h:V.cell? p=some v):∃o:Obj,V.heap[p.block]?=some o/\o.isCells=true:=by
 unfold World.cell? at h;cases ho:V.heap[p.block]? with
 | none=>simp[ho]at h
 | some o=>exact⟨o,rfl,by cases o<;>simp_all[Obj.isCells]⟩
theorem ZG.block{n₀:Nat}{Ms:Nat->Prop}{V V':World}(h:ZG n₀ Ms V V'){p:Addr}{v:Value}(hc:V.cell? p=some v)(hm:¬Ms p.block):V'.heap[p.block]?=V.heap[p.block]?:=by
 obtain⟨o,h1,h2⟩:=YM hc;rw[h1];exact h.cells _ _ hm h1 h2
theorem ZG.cell{n₀:Nat}{Ms:Nat->Prop}{V V':World}(h:ZG n₀ Ms V V'){p:Addr}{v:Value}(hc:V.cell? p=some v)(hm:¬Ms p.block):V'.cell? p=some v :=
 (World.cell?_of_block (h.block hc hm)).trans hc
def Zbj(x:XS):Value:=.agg #[.int .i64 x.op,.int .i64 x.dst,.int .i64 x.a,.int .i64 x.b,.int .i64 x.imm]
def TA(n:Nat)(k:Nat):List (Fin n):=((List.finRange n).reverse).take (n-k)
theorem KM(n:Nat):TA n n=[]:=by simp[TA]
theorem Vb(n k:Nat):(TA n k).length=n-k:=by simp[TA]
theorem Ku{n q:Nat}(h:q<n):TA n q=TA n (q+1)++[⟨q,h⟩]:=by
 unfold TA;have e:n-q=(n-(q+1))+1:=by omega
 rw[e,List.take_succ_eq_append_getElem (by simp;omega)];congr 1;simp;omega
theorem ZhS(F:Fence)(n:Nat)(h8:F.fn 84)(hro:F.round=none)(hn:1<=n)(l Bs n₀ cap:Nat)(Ms:Nat->Prop)(a:Option Addr)(xs:List XS)(L B:Nat)(hreach:xs.length<=1000000)(hM:∀k,L<=k->k<B->¬Ms k)(hMs:¬Ms Bs)(J Jx:List (Fin xs.length)->World->Prop)
 (hY:∀(pre:List (Fin xs.length))(x:Fin xs.length)(W:World),J pre W->pre.length<xs.length->YieldAt F (n-1) Tryd.prog l #[.int .i64 ((x:Nat):Int),Zbj xs[x]] W fun e W' =>
  (e=.returned (.bool true)/\J (pre++[x]) W'/\ZG n₀ Ms W W')\/(e=.returned (.bool false)/\Jx (pre++[x]) W'))
 (W:World) (hBs:W.cell? ⟨Bs,0,none⟩=some (.slice a xs.length cap)) (hc:Hid (YF W L B a xs)) (h0:J [] W) :
 CallsIn F n Tryd.prog 84 #[.func (.yield l) #[] #[],.pointer (some ⟨Bs,0,none⟩)] W fun e W'=>(∃v,e=.returned v) /\
  ((∃ys,ys=TA xs.length 0/\J ys W')\/(∃pre,True/\Jx pre W')):=by
 refine callsIn_of_wp Tryd.func84 rfl h8 ?_ hro;simp only[Tryd.ntmps84,List.size_toArray,List.length_cons,List.length_nil,Nat.reduceAdd,Nat.reduceSub,Array.replicate_succ,Array.replicate_zero,List.push_toArray,List.append_toArray,List.nil_append,List.cons_append]
 gi_wp2
 gi_loopw [3] (fun i wr=>∃(k:Nat)(z:Int),k<=xs.length/\i=.int .i64 z/\z+1=(k:Int)/\J (TA xs.length k) wr/\ZG n₀ Ms W wr)
  (fun i _=>(intOf i+1).toNat)
 case atStart=>exact⟨xs.length,_,Nat.le_refl _,rfl,by omega,by rw[KM];exact h0,ZG.refl _⟩
 case round =>
  obtain⟨k,z,hk,rfl,hzk,hJs,hnx⟩:=hrel;have hBs':=hnx.cell hBs hMs;cases k with
  | zero =>
   have hz1:z=-1:=by omega
   subst hz1
   gi_wp2
   go_end0
   exact⟨⟨_,rfl⟩,.inl ⟨_,rfl,hJs⟩⟩
  | succ q =>
   have hz1:z=(q:Int):=by omega
   subst hz1;have hq:q<xs.length:=hk;obtain⟨b,o,ea,hbB,hcx⟩:=hc.out q hq;subst ea;have hMb:=hM b hbB.1 hbB.2;obtain⟨q0,q1,q2,q3,q4⟩:=hcx;have r0:=hnx.cell q0 hMb;have r1:=hnx.cell q1 hMb;have r2:=hnx.cell q2 hMb;have r3:=hnx.cell q3 hMb;have r4:=hnx.cell q4 hMb;clear q0 q1 q2 q3 q4;obtain⟨fn,tmps,assign,body,hy,hR⟩:=hY _ ⟨q,hq⟩ wr hJs (by rw[Vb];omega);have hyy:(Instr.yield l #[.int .i64 ((q:Nat):Int),.agg #[.int .i64 xs[q].op,.int .i64 xs[q].dst,.int .i64 xs[q].a,.int .i64 xs[q].b,.int .i64 xs[q].imm]]).run Tryd.prog wr=_:=hy;clear hy
   gi_wp2
   refine hR.mono ?_;rintro e W3 (⟨rfl,hJ3,hk3⟩ | ⟨rfl,hJx3⟩)
   ·gi_wp2
    go_roundw
    case rel=>exact⟨q,_,by omega,rfl,by omega,by rw[Ku hq];exact hJ3,hnx.trans hk3⟩
    case measure=>simp[intOf]
   ·gi_wp2
    refine bodyPost_ret (results_none rfl _ _ _) rfl ?_;exact⟨⟨_,rfl⟩,.inr ⟨_,trivial,hJx3⟩⟩
theorem TL(F:Fence)(n:Nat)(h6:F.fn 67)(hro:F.round=none)(a:Option Addr)(len cap:Nat)(w:World) :
 CallsIn F n Tryd.prog 67 #[.slice a len cap] w fun e w'=>e=.returned (.func (.func 84) #[] #[.pointer (some ⟨w.heap.size,0,none⟩)])/\w'=w.alloc (.cells #[.slice a len cap] 35):=by
 refine callsIn_of_wp Tryd.func67 rfl h6 ?_ hro;simp only[Tryd.ntmps67,List.size_toArray,List.length_cons,List.length_nil,Nat.reduceAdd,Nat.reduceSub,Array.replicate_succ,Array.replicate_zero,List.push_toArray,List.append_toArray,List.nil_append,List.cons_append]
 gi_wp2
 go_ret
 exact⟨rfl,rfl⟩
theorem UU(F:Fence)(n:Nat)(h8:F.fn 84)(hro:F.round=none)(hn:1<=n)(Bs n₀ cap:Nat)(Ms:Nat->Prop)(a:Option Addr)(xs:List XS)(L B:Nat)(hreach:xs.length<=1000000)(hB:B<=n₀)(hM:∀k,L<=k->k<B->¬Ms k)(hMs:¬Ms Bs)(w:World)(hn0:n₀<=w.heap.size)(hBs:Bs<w.heap.size)
 (hc:w.cell? ⟨Bs,0,none⟩=some (.slice a xs.length cap)) (hI:Hid (YF w L B a xs)) :
 SeqStopsK F n Tryd.prog 84 #[.pointer (some ⟨Bs,0,none⟩)] (fun x:Fin xs.length=>#[Value.int .i64 ((x:Nat):Int),Zbj xs[x]]) (ZG n₀ Ms) (fun ys=>ys=TA xs.length 0) (fun _=>True) xs.length w:=fun l J Jx W hW _ _ hY h0 =>
 ZhS F n h8 hro hn l Bs n₀ cap Ms a xs L B hreach hM hMs J Jx hY W ((hW.cell (p:=⟨Bs,0,none⟩) hBs).trans hc) (Xa (hI.keepS (fun k _ h2=>hW.block k (by omega)))) h0
end Go.Proofs.YtbofmlmdgkblkaaDoor
