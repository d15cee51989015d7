import Derived.Test.YtbofmlmdgkblkaaDoorFV1
import Derived.Test.YtbofmlmdgkblkaaDoorAL1
namespace Go.Proofs.YtbofmlmdgkblkaaDoor
open Go.RowKit
variable {F : Fence} {n : Nat} {P : Program} {α : Type}
theorem YJ.keepsF{W V:World}{D:Nat}{r:Loop}(h:YJ W D r)(k:KeepsFrom D W V):YJ V D r:=⟨k.same _ _ (by omega) h.1 rfl,k.same _ _ (Nat.le_refl _) h.2 rfl⟩
theorem Vr{A V:World}{B B':Nat}(h:KeepsFrom B A V)(hB:B<=B'):KeepsFrom B' A V:=⟨h.size,fun k o h1 h2 h3=>h.same k o (by omega) h2 h3⟩
end Go.Proofs.YtbofmlmdgkblkaaDoor
namespace Go.Proofs.YtbofmlmdgkblkaaDoor
set_option maxHeartbeats 1000000
open Go.RowKit Go.Shelf
attribute [local go_sem] Oper.semAt_some
theorem Zgb(n:Nat)(v0 v1 v2 v3 v4 v5:Value)(g Kw C:Nat)(w:World) :
 CallsIn Fence.wide n Tryd.prog 22 #[.agg #[v0,v1,v2,v3,v4,v5],.agg #[.slice (some ⟨g,0,none⟩) Kw C]] w fun e w'=>e=.returned (.func (.func 52) #[] #[.pointer (some ⟨w.heap.size+1,0,none⟩),.pointer (some ⟨w.heap.size,0,none⟩)])/\w'=(w.alloc (.cells #[v0,v1,v2,v3,v4,v5] 39)).alloc (.cells #[.slice (some ⟨g,0,none⟩) Kw C] 62):=by
 refine callsIn_of_wp Tryd.func22 rfl trivial ?_ rfl;simp only[Tryd.ntmps22,List.size_toArray,List.length_cons,List.length_nil,Nat.reduceAdd,Nat.reduceSub,Array.replicate_succ,Array.replicate_zero,List.push_toArray,List.append_toArray,List.nil_append,List.cons_append]
 gi_wp2
 go_ret
 exact⟨rfl,rfl⟩
end Go.Proofs.YtbofmlmdgkblkaaDoor
namespace Go.Proofs.YtbofmlmdgkblkaaDoor
open Go.RowKit
variable {F : Fence} {n : Nat} {P : Program} {α : Type}
def ZhW(F:Fence)(n:Nat)(P:Program)(g:Nat)(lb:Array Value)(encs:Nat->α->Array Value)(Px:Nat->α->World->Prop)(Kp:World->World->Prop)(S Sp:List α->Prop)(N:Nat)(turn vary:Prop)(w:World):Prop :=
 ∀(l:Nat)(J:Nat->List α->World->Prop)(Jx:List α->World->Prop)(W:World),Below w.heap.size w W->l<W.heap.size->(∀z,OwnFrom W.heap.size (J z))->OwnFrom W.heap.size Jx->(turn->∀z s V V',W.heap.size<=z->J z s V->V.grownBy V' (some z)->J z s V') ->
  (vary->(∀z z' s V V',W.heap.size<=z'->J z s V->Below W.heap.size V V'->J z' s V')/\∀s V V',Jx s V->Below W.heap.size V V'->Jx s V') ->
  (∀z pre x V,W.heap.size<=z->J z pre V->Px z x V->pre.length<N->YieldAt F (n-1) P l (encs z x) V fun e V'=>(e=.returned (.bool true)/\J z (pre++[x]) V'/\Kp V V'/\KeepsFrom W.heap.size V V')\/(e=.returned (.bool false)/\Jx (pre++[x]) V'/\Kp V V'/\KeepsFrom W.heap.size V V')) ->
  (∀z V,W.heap.size<=z->z<V.heap.size->Below W.heap.size W V->J z [] V)->CallsIn F n P g (#[.func (.yield l) #[] #[]]++lb) W fun e V=>(∃v,e=.returned v)/\((∃z xs,W.heap.size<=z/\S xs/\J z xs V)\/∃pre,Sp pre/\Jx pre V)
def ZeE{α:Type}(B:Nat)(Kp:World->World->Prop)(I:List α->World->Prop)(Ix:Code->List α->World->Prop)(xs:List α)(W:World):Exit->Act->World->Prop
 | .normal,_,W'=>KeepsFrom B W W'/\Kp W W'/\I xs W'
 | .ret,_,W'=>KeepsFrom B W W'/\Kp W W'/\Ix .ret xs W'
 | .exit id,_,W'=>KeepsFrom B W W'/\Kp W W'/\Ix (.exit id) xs W'
 | .goto t,_,W'=>KeepsFrom B W W'/\Kp W W'/\Ix (.goto t) xs W'
 | .panic _,_,_=>False
 | .outgrown,_,_=>False
theorem ZfB{g:Operand}{ps:Array Tmp}{asg bo:Code}{Q:Exit->Act->World->Prop}{a:Act}{w:World}(hro:F.round=none)(h1:1<=n){gf:Nat}{lb:Array Value}(hg:a.eval g=.func (.func gf) #[] lb)(hFg:F.fn gf)(eg:∀args w,(callFunc gf args).run P w=.ok (.enter gf args) w)
 {encs:Nat->α->Array Value} {Px:Nat->α->World->Prop} {Kp:World->World->Prop} {S Sp:List α->Prop} {N:Nat} {turn vary:Prop} {w0:World} (hseq:ZhW F (n-1) P gf lb encs Px Kp S Sp N turn vary w0) (hPx:∀z,OwnFrom w.heap.size (Px z)) (hKt:∀{A B C:World},Kp A B->Kp B C->Kp A C) (hKb:∀(W:World)(l:Nat)(o o':Obj),w.heap.size<=l->W.heap[l]?=some o->o.isCells=false->Kp W (W.putObj l o')) (hb0:Below w0.heap.size w0 w) (hps:∀z x,(encs z x).size=ps.size)
 (I:Nat->List α->World->Prop) (Ix:Code->List α->World->Prop) (hI:∀z,OwnFrom w.heap.size (I z)) (hIx:∀c,OwnFrom w.heap.size (Ix c)) (hIz:turn->∀z s V V',w.heap.size<=z->I z s V->V.grownBy V' (some z)->I z s V') (hvar:vary->(∀z z' s V V',w.heap.size<=z'->I z s V->Below (w.heap.size+2) V V'->I z' s V')/\∀c s V V',Ix c s V->Below (w.heap.size+2) V V'->Ix c s V') (h0:∀z V,w.heap.size<=z->z<V.heap.size->Below w.heap.size w V->I z [] V) (Ax:Nat->α->Act->World->Prop) (hAx:∀z x a',OwnFrom w.heap.size (fun (_:Unit) W=>Ax z x a' W))
 (hassign:∀(l z:Nat)(pre:List α)(x:α)(W:World)(K:Act->World->Prop),w.heap.size<=z->I z pre W->Px z x W->(∀a' W',KeepsOthers W W'->Kp W W'->I z pre W'->Px z x W'->Ax z x a' W'->K a' W')->asg.wpIn (F.inRound l) (n-1-1) P (Exit.then K (fun _ _ _=>False)) { tmps:=(ps.zip (encs z x)).foldl (fun t (p,v)=>t.setIfInBounds p v) a.tmps,defers:=[] } W)
 (hbody:∀(l z:Nat)(pre:List α)(x:α)(a':Act)(W:World),w.heap.size<=z->w.heap.size<=l->(∃r,W.heap[l]?=some (.loop r))->I z pre W->Px z x W->Ax z x a' W->pre.length<N->bo.wpIn (F.inRound l) (n-1-1) P (ZeE w.heap.size Kp (I z) Ix (pre++[x]) W) a' W)
 (hdone:∀(D z:Nat)(xs:List α)(W:World),w.heap.size<=D->w.heap.size<=z->S xs->I z xs W->W.heap[D]?=some (.deferred (some []))->Q .normal { a with defers:={ target:=.collected D,args:=#[] } :: a.defers } W)
 (hstop:∀(D:Nat)(c:Code)(pre:List α)(W:World),w.heap.size<=D->Sp pre->Ix c pre W->W.heap[D]?=some (.deferred (some []))->c.wpIn F n P Q { a with defers:={ target:=.collected D,args:=#[] } :: a.defers } W) :
 (Code.rangeFunc g ps asg bo).wpIn F n P Q a w:=by
 refine wpIn_rangeFunc (fun fn hfn=>?_);rw[hro];have hrun:=run_enterLoop_outer (P:=P) (w:=w) fn a.tmps ps asg bo;generalize hW:(w.alloc (.deferred (some []))).alloc (.loop { state:=.ready,pending:=none,fn,tmps:=a.tmps,params:=ps,assign:=asg,body:=bo,defers:=w.heap.size })=W1 at hrun;have hR1:YJ W1 w.heap.size (JT fn a.tmps ps asg bo w.heap.size .ready none):=by
  subst hW;refine⟨?_,?_⟩
  ·have:=World.alloc_heap_new (w.alloc (.deferred (some []))) (.loop (JT fn a.tmps ps asg bo w.heap.size .ready none))
   rwa[World.size_alloc]at this
  ·exact(Below.heap_alloc _ _ _ (by simp)).trans (World.alloc_heap_new w _)
 have hz1:W1.heap.size=w.heap.size+2:=by subst hW;simp
 have hBw:Below w.heap.size w W1:=by subst hW;exact Xb (Xb (Below.refl w.heap.size w) _) _
 have hB1:Below w0.heap.size w0 W1:=hb0.trans (hBw.mono hb0.size);clear hW;refine⟨_,_,W1,{ target:=.fn (.func gf) lb,args:=#[.func (.yield (w.heap.size+1)) #[] #[]] },W1,gf,#[.func (.yield (w.heap.size+1)) #[] #[]]++lb,W1,hrun,?_,?_,?_,fun _=>h1,?_⟩
 ·simp only[resolve,hg]
  simp[go_sem]
 ·intro f' hf'
  simp[Target.leads]at hf';subst hf';exact hFg
 ·simp[invoke,go_sem,eg]
 ·have ow:∀{r:Loop}{A V:World}{row:Option Nat},YJ A w.heap.size r->A.grownBy V row->(∀k,row=some k->W1.heap.size<=k/\∃o:Obj,A.heap[k]?=some o/\o.isCells=false)->YJ V w.heap.size r:=fun h k q=>h.own k (fun z e=>by have:=(q z e).1;omega)
  have fr:∀{A:World}{row:Option Nat},(∀k,row=some k->W1.heap.size<=k/\∃o:Obj,A.heap[k]?=some o/\o.isCells=false)->∀k,row=some k->w.heap.size<=k/\∃o:Obj,A.heap[k]?=some o/\o.isCells=false:=fun q k e=>⟨by have:=(q k e).1;omega,(q k e).2⟩
  refine(hseq (w.heap.size+1) (fun z pre W=>I z pre W/\YJ W w.heap.size (JT fn a.tmps ps asg bo w.heap.size .ready none)) (fun pre W=>∃c,Ix c pre W/\YJ W w.heap.size (JT fn a.tmps ps asg bo w.heap.size .done (some c))) W1 hB1 (by omega)
   (fun z s A V row hs k q=>⟨hI z s A V row hs.1 k (fr q),ow hs.2 k q⟩) (fun s A V row hs k q=>by obtain⟨c,hc,hr⟩:=hs;exact⟨c,hIx c s A V row hc k (fr q),ow hr k q⟩) (fun ht z s V V' hz hs k=>⟨hIz ht z s V V' (by omega) hs.1 k,hs.2.own k (fun q e=>by injection e with e;omega)⟩)
   (fun hv=>⟨fun z z' s V V' hz hs k=>⟨(hvar hv).1 z z' s V V' (by omega) hs.1 (k.mono (by omega)),⟨(k.block _ (by omega)).trans hs.2.1,(k.block _ (by omega)).trans hs.2.2⟩⟩,fun s V V' hs k=>by obtain⟨c,hc,hr⟩:=hs;exact⟨c,(hvar hv).2 c s V V' hc (k.mono (by omega)),⟨(k.block _ (by omega)).trans hr.1,(k.block _ (by omega)).trans hr.2⟩⟩⟩) ?_ (fun z V hz hzV hV=>⟨h0 z V (by omega) hzV (hBw.trans (hV.mono (by omega))),⟨(hV.block _ (by omega)).trans hR1.1,(hV.block _ (by omega)).trans hR1.2⟩⟩)).mono ?_
  ·rintro z pre x W hz ⟨hi,hr⟩ hpx hlen
   have hy:(Instr.yield (w.heap.size+1) (encs z x)).run P W=_:=run_yield (P:=P) hr.1 (hps z x);refine⟨_,_,_,_,hy,roundIn_of_wpIn hfn (hassign _ z pre x W _ (by omega) hi hpx (fun a' W' hko hkp hi' hpx' hax=>?_))⟩;have hr':=hr.keeps hko;refine⟨_,run_beginRound hr'.1 rfl,?_⟩;have hrb:YJ (W'.putObj (w.heap.size+1) (.loop (JT fn a.tmps ps asg bo w.heap.size .busy none))) w.heap.size (JT fn a.tmps ps asg bo w.heap.size .busy none):=hr'.put _;have hkb:Kp W (W'.putObj (w.heap.size+1) (.loop (JT fn a.tmps ps asg bo w.heap.size .busy none))):=hKt hkp (hKb _ _ _ _ (by omega) hr'.1 rfl);refine wpIn_mono (hbody _ z pre x a' _ (by omega) (by omega) ⟨_,hrb.1⟩ ((hI z).putObj _ hi' (by omega) hr'.1 rfl) ((hPx z).putObj _ hpx' (by omega) hr'.1 rfl) ((hAx z x a').putObj (s:=()) _ hax (by omega) hr'.1 rfl) hlen) ?_;have kf:∀{V:World}(o:Obj),KeepsFrom w.heap.size (W'.putObj (w.heap.size+1) (.loop (JT fn a.tmps ps asg bo w.heap.size .busy none))) V->KeepsFrom W1.heap.size W (V.putObj (w.heap.size+1) o):=fun {V} o h=>(((hko.from _).trans (KeepsFrom.of_grownBy (grownBy_putObj' W' _ _) (fun j e=>by cases e;omega))).trans (Vr h (by omega))).trans (KeepsFrom.of_grownBy (grownBy_putObj' V _ _) (fun j e=>by cases e;omega))
   rintro e a3 V hp;cases e with
   | normal =>
    have hv:=hrb.keepsF hp.1;exact⟨_,_,hv.fin none,.inl ⟨rfl,⟨(hI z).putObj _ hp.2.2 (by omega) hv.1 rfl,hv.put _⟩,hKt (hKt hkb hp.2.1) (hKb _ _ _ _ (by omega) hv.1 rfl),kf _ hp.1⟩⟩
   | ret =>
    have hv:=hrb.keepsF hp.1;exact⟨_,_,hv.fin (some .ret),.inr ⟨rfl,⟨.ret,(hIx _).putObj _ hp.2.2 (by omega) hv.1 rfl,hv.put _⟩,hKt (hKt hkb hp.2.1) (hKb _ _ _ _ (by omega) hv.1 rfl),kf _ hp.1⟩⟩
   | exit id =>
    have hv:=hrb.keepsF hp.1;exact⟨_,_,hv.fin (some (.exit id)),.inr ⟨rfl,⟨.exit id,(hIx _).putObj _ hp.2.2 (by omega) hv.1 rfl,hv.put _⟩,hKt (hKt hkb hp.2.1) (hKb _ _ _ _ (by omega) hv.1 rfl),kf _ hp.1⟩⟩
   | goto t =>
    have hv:=hrb.keepsF hp.1;exact⟨_,_,hv.fin (some (.goto t)),.inr ⟨rfl,⟨.goto t,(hIx _).putObj _ hp.2.2 (by omega) hv.1 rfl,hv.put _⟩,hKt (hKt hkb hp.2.1) (hKb _ _ _ _ (by omega) hv.1 rfl),kf _ hp.1⟩⟩
   | panic ch=>exact hp.elim
   | outgrown=>exact hp.elim
  ·rintro e V ⟨⟨v,rfl⟩,(⟨z,xs,hz,hS,hi,hr⟩ | ⟨pre,hSp,c,hi,hr⟩)⟩
   ·exact⟨none,_,run_endLoop hr.1 (by simp[JT]),hdone _ z xs _ (Nat.le_refl _) (by omega) hS ((hI z).putObj _ hi (by omega) hr.1 rfl) (hr.put _).2⟩
   ·exact⟨some c,_,run_endLoop hr.1 (by simp[JT]),hstop _ c pre _ (Nat.le_refl _) hSp ((hIx c).putObj _ hi (by omega) hr.1 rfl) (hr.put _).2⟩
end Go.Proofs.YtbofmlmdgkblkaaDoor
namespace Go.Proofs.YtbofmlmdgkblkaaDoor
set_option maxRecDepth 100000
set_option maxHeartbeats 2000000
open Go.RowKit
theorem ZbR(n k:Nat):TA n k <+: TA n 0:=by
 unfold TA;rw[show n-0=n by omega,List.take_of_length_le (by simp:(List.finRange n).reverse.length<=n)];exact List.take_prefix _ _
theorem ZgQ(F:Fence)(n:Nat)(h8:F.fn 84)(hro:F.round=none)(hn:1<=n)(l Bs n₀ cap:Nat)(Ms:Nat->Prop)(a:Option Addr)(xs:List XS)(L B:Nat)(hreach:xs.length<=1000000)(hM:∀k,L<=k->k<B->¬Ms k)(hMs:¬Ms Bs)(J Jx:List (Fin xs.length)->World->Prop)
 (hY:∀(pre:List (Fin xs.length))(x:Fin xs.length)(W:World),J pre W->pre.length<xs.length->YieldAt F (n-1) Tryd.prog l #[.int .i64 ((x:Nat):Int),Zbj xs[x]] W fun e W' =>
  (e=.returned (.bool true)/\J (pre++[x]) W'/\ZG n₀ Ms W W')\/(e=.returned (.bool false)/\Jx (pre++[x]) W'))
 (W:World) (hBs:W.cell? ⟨Bs,0,none⟩=some (.slice a xs.length cap)) (hc:Hid (YF W L B a xs)) (h0:J [] W) :
 CallsIn F n Tryd.prog 84 #[.func (.yield l) #[] #[],.pointer (some ⟨Bs,0,none⟩)] W fun e W'=>(∃v,e=.returned v) /\
  ((∃ys,ys=TA xs.length 0/\J ys W')\/(∃pre,(∃q,pre=TA xs.length q)/\Jx pre W')):=by
 refine callsIn_of_wp Tryd.func84 rfl h8 ?_ hro;simp only[Tryd.ntmps84,List.size_toArray,List.length_cons,List.length_nil,Nat.reduceAdd,Nat.reduceSub,Array.replicate_succ,Array.replicate_zero,List.push_toArray,List.append_toArray,List.nil_append,List.cons_append]
 gi_wp2
 gi_loopw [3] (fun i wr=>∃(k:Nat)(z:Int),k<=xs.length/\i=.int .i64 z/\z+1=(k:Int)/\J (TA xs.length k) wr/\ZG n₀ Ms W wr)
  (fun i _=>(intOf i+1).toNat)
 case atStart=>exact⟨xs.length,_,Nat.le_refl _,rfl,by omega,by rw[KM];exact h0,ZG.refl _⟩
 case round =>
  obtain⟨k,z,hk,rfl,hzk,hJs,hnx⟩:=hrel;have hBs':=hnx.cell hBs hMs;cases k with
  | zero =>
   have hz1:z=-1:=by omega
   subst hz1
   gi_wp2
   go_end0
   exact⟨⟨_,rfl⟩,.inl ⟨_,rfl,hJs⟩⟩
  | succ q =>
   have hz1:z=(q:Int):=by omega
   subst hz1;have hq:q<xs.length:=hk;obtain⟨b,o,ea,hbB,hcx⟩:=hc.out q hq;subst ea;have hMb:=hM b hbB.1 hbB.2;obtain⟨q0,q1,q2,q3,q4⟩:=hcx;have r0:=hnx.cell q0 hMb;have r1:=hnx.cell q1 hMb;have r2:=hnx.cell q2 hMb;have r3:=hnx.cell q3 hMb;have r4:=hnx.cell q4 hMb;clear q0 q1 q2 q3 q4;obtain⟨fn,tmps,assign,body,hy,hR⟩:=hY _ ⟨q,hq⟩ wr hJs (by rw[Vb];omega);have hyy:(Instr.yield l #[.int .i64 ((q:Nat):Int),.agg #[.int .i64 xs[q].op,.int .i64 xs[q].dst,.int .i64 xs[q].a,.int .i64 xs[q].b,.int .i64 xs[q].imm]]).run Tryd.prog wr=_:=hy;clear hy
   gi_wp2
   refine hR.mono ?_;rintro e W3 (⟨rfl,hJ3,hk3⟩ | ⟨rfl,hJx3⟩)
   ·gi_wp2
    go_roundw
    case rel=>exact⟨q,_,by omega,rfl,by omega,by rw[Ku hq];exact hJ3,hnx.trans hk3⟩
    case measure=>simp[intOf]
   ·gi_wp2
    refine bodyPost_ret (results_none rfl _ _ _) rfl ?_;exact⟨⟨_,rfl⟩,.inr ⟨_,⟨q,(Ku hq).symm⟩,hJx3⟩⟩
theorem Uz(F:Fence)(n:Nat)(h8:F.fn 84)(hro:F.round=none)(hn:1<=n)(Bs n₀ cap:Nat)(Ms:Nat->Prop)(a:Option Addr)(xs:List XS)(L B:Nat)(hreach:xs.length<=1000000)(hB:B<=n₀)(hM:∀k,L<=k->k<B->¬Ms k)(hMs:¬Ms Bs)(w:World)(hn0:n₀<=w.heap.size)(hBs:Bs<w.heap.size)
 (hc:w.cell? ⟨Bs,0,none⟩=some (.slice a xs.length cap)) (hI:Hid (YF w L B a xs)) :
 SeqStopsK F n Tryd.prog 84 #[.pointer (some ⟨Bs,0,none⟩)] (fun x:Fin xs.length=>#[Value.int .i64 ((x:Nat):Int),Zbj xs[x]]) (ZG n₀ Ms) (fun ys=>ys=TA xs.length 0) (fun pre=>∃q,pre=TA xs.length q) xs.length w:=fun l J Jx W hW _ _ hY h0 =>
 ZgQ F n h8 hro hn l Bs n₀ cap Ms a xs L B hreach hM hMs J Jx hY W ((hW.cell (p:=⟨Bs,0,none⟩) hBs).trans hc) (Xa (hI.keepS (fun k _ h2=>hW.block k (by omega)))) h0
end Go.Proofs.YtbofmlmdgkblkaaDoor
namespace Go.Proofs.YtbofmlmdgkblkaaDoor
set_option maxHeartbeats 4000000
set_option maxRecDepth 100000
open Go.RowKit Go.Shelf
attribute [local go_sem] Oper.semAt_some
theorem ZaU(n₀ Bx L B:Nat)(Ms:Nat->Prop)(Pd:Nat × List Int × List Int->Prop)(x:Xg)(w:World)(hS:Hid (TQ x L B Bx n₀ w.heap.size w))(hM:Hid (∀k,L<=k->k<B->¬Ms k))(hMx:Hid (¬Ms Bx))(hMn:Hid (∀k,w.heap.size<=k->¬Ms k))(hM1:Hid (¬Ms 0))(hM2:Hid (¬Ms 1))(hops:Hid (∀y∈x.instrs,1<=y.op/\y.op<=13))(htk:1<=x.term.kind/\x.term.kind<=3)(hln:x.instrs.length<=4000)(hlp:x.phis.length<=4000)(hPd:Hid (∀q∈plL x,Pd q)) :
 ZhW Fence.wide 7 Tryd.prog 64 #[.pointer (some ⟨Bx,0,none⟩)] (fun _=>ZcL) (fun _=>Zf2 w.heap.size Pd) (ZG n₀ Ms) (fun xs=>xs.map Pl.dat=plL x) (fun xs=>xs.map Pl.dat <+: plL x) (x.instrs.length+2) False False w:=by
 intro l J0 Jx W hW hl hJ hJx _ _ hY h0;have HY:=Xa (fun pre x V=>hY W.heap.size pre x V (Nat.le_refl _));have HJ:=Xa (hJ W.heap.size);have H0:=Xa (fun V=>h0 W.heap.size V (Nat.le_refl _));have HE:Hid (∀xs V,xs.map Pl.dat=plL x->J0 W.heap.size xs V->(∃z xs,W.heap.size<=z/\xs.map Pl.dat=plL x/\J0 z xs V)\/∃pre,pre.map Pl.dat <+: plL x/\Jx pre V):=Xa (fun xs V h1 h2=>.inl ⟨_,xs,Nat.le_refl _,h1,h2⟩);have HJX:=Xa hJx;clear hY hJ h0 hJx;generalize J0 W.heap.size=J at HY HJ H0 HE;have hzW:=hW.size;have HSW:=Xa (hS.below hW (Nat.le_refl _));refine callsIn_of_wp_marks Tryd.func64 rfl trivial ?_ rfl;simp only[Tryd.ntmps64,List.size_toArray,List.length_cons,List.length_nil,Nat.reduceAdd,Nat.reduceSub,Array.replicate_succ,Array.replicate_zero,List.push_toArray,List.append_toArray,List.nil_append,List.cons_append]
 gi_wp2
 have HBa:Hid (Below W.heap.size W (W.alloc (.cells #[.func (.yield l) #[] #[]] 121))):=Xa (Xb (Below.refl _ _) _);have hya:(W.alloc (.cells #[.func (.yield l) #[] #[]] 121)).cell? ⟨W.heap.size,0,none⟩=some (.func (.yield l) #[] #[]):=by simp[go_sem]
 have hza:(W.alloc (.cells #[.func (.yield l) #[] #[]] 121)).heap.size=W.heap.size+1:=by simp
 generalize W.alloc (.cells #[.func (.yield l) #[] #[]] 121)=wa at *;have HSa:=Xa (HSW.below HBa.out hzW);obtain⟨pa,pc,ia,ic,e0,e1,t0,hph,hin⟩:=HSa.blk;simp only[Nat.zero_add]at e1 t0;clear e0 hph hin;obtain⟨k,hk⟩:=Int.eq_ofNat_of_zero_le (show 0<=x.term.kind by omega);have hk1:1<=k:=by omega
 have hk3:k<=3:=by omega
 have HT:Hid (TX wa Bx 2 ⟨(k:Int),x.term.a,x.term.to,x.term.els⟩):=Xa (by rw[<-hk];exact t0);have HRD:=Xa (ZcW Bx 2 k x.term.a x.term.to x.term.els wa.drew (Xa HT.out) hk1 hk3 (Xa HSa.ter));have hrt:rdT ⟨(k:Int),x.term.a,x.term.to,x.term.els⟩=rdT x.term:=by unfold rdT;simp only;rw[<-hk]
 rw[hrt]at HRD;have HLR:Hid ((rdT x.term).length<=1):=Xa (by unfold rdT;split<;>simp);clear hrt t0;obtain⟨us,hus⟩:∃us,us=rdT x.term:=⟨_,rfl⟩;rw[<-hus]at HRD HLR;have HUS:=Xa hus;clear hus;have hwl:IntKind.i64.wrap ((x.instrs.length:Int)+1)=(x.instrs.length:Int)+1:=by rw[IntKind.wrap_i64];omega
 refine TD (fun w'=>w'.cell? ⟨W.heap.size,0,none⟩=some (.func (.yield l) #[] #[])/\w'.cell? ⟨Bx,1,none⟩=some (.slice ia x.instrs.length ic)) (fun hHeld=>?_);refine Yl 0 ?_;refine Yl 1 ?_;refine Yl 2 ?_;refine Yl 3 ?_;refine Yl 4 ?_;refine Yl 5 ?_;refine YA 6 (fun K hK=>?_);go_simp;refine⟨trivial,(callsIn_wide.2 HRD.out).mono ?_⟩;rintro e w5 ⟨v5,rfl,hb5,ho5⟩;obtain⟨a5,c5,rfl,hi5⟩:=Xn ho5;have hb5':Below wa.heap.size wa w5:=⟨hb5.os,hb5.tape,hb5.output,hb5.size,hb5.block⟩;have HB5:=Xa hb5';have y5:=(Yn hb5' (by omega)).trans hya;have i5:=(hb5'.cell (p:=⟨Bx,1,none⟩) (by have:=hS.lt;show Bx<_;omega)).trans e1;have HI5:Hid (Xe w5 wa.heap.size w5.heap.size a5 us):=Xa hi5;have HVN:=Xa (Yo a5 us.length c5 us wa.heap.size w5.heap.size w5 HI5 (Xa rfl) (by have:=HLR.out;omega) (Nat.le_refl _));clear hb5 ho5 hi5 HRD hb5';refine hK _ _ ⟨y5,i5⟩ (fun hHeld=>?_);clear hK;refine YA 7 (fun K hK=>?_);go_simp;refine⟨trivial,(callsIn_wide.2 HVN.out).mono ?_⟩;rintro e w6 ⟨a6,c6,rfl,hb6,hi6⟩;have HB6:=Xa (Xj HB5.out hb6);have y6:=(Yn HB6.out (by omega)).trans hya;have i6:=(HB6.cell (p:=⟨Bx,1,none⟩) (by have:=hS.lt;show Bx<_;omega)).trans e1;have HI6:=Xa hi6;have hz6:=HB6.size;have hz65:=hb6.size;have hz5:=HB5.size;clear hb6 hi6 HVN y5 i5;refine hK _ _ ⟨y6,i6⟩ (fun hHeld=>?_);clear hK;refine Yl 8 ?_;have HS6:=Xa (HSa.below HB6.out (by omega));have HJ6:Hid (J [] w6):=Xa (H0.out w6 (by omega) (Xj HBa.out HB6.out));obtain⟨fn,tmps,asg,bo,hy,hR⟩:=HY.out [] ⟨x.instrs.length+1,a6,c6,us,none,0,[]⟩ w6 HJ6.out ⟨hPd.out _ (by show((x.instrs.length+1:Nat),us,([]:List Int))∈plL x;rw[HUS.out];exact List.mem_cons_self),HI6.mono (by omega) (Nat.le_refl _),fun i hi=>absurd hi (by simp)⟩ (by simp);have hy':(Instr.yield l #[.int .i64 ((x.instrs.length:Int)+1),.agg #[.slice a6 us.length c6,.slice none 0 0]]).run Tryd.prog w6=_:=hy;clear hy;refine YA 9 (fun K hK=>?_);go_simp;refine hR.mono ?_;rintro e W3 (⟨rfl,hJ3,hk3',hf3⟩ | ⟨rfl,hJ3,hk3',hf3⟩);rotate_left
 ·have HJ3:=Xa hJ3
  have y3:=hk3'.cell y6 (hMn.out _ hzW);have i3:=hk3'.cell i6 hMx.out;clear hJ3 hk3' hf3 hy' hR;refine hK _ _ ⟨y3,i3⟩ (fun hHeld=>?_);clear hK hHeld;have hHeld:(fun w':World=>w'.cell? ⟨W.heap.size,0,none⟩=some (.func (.yield l) #[] #[])/\w'.cell? ⟨Bx,1,none⟩=some (.slice ia x.instrs.length ic)) W3:=⟨y3,i3⟩;refine Yl 10 ?_;refine J7 ?_;clear hHeld y6 i6 hya e1
  gi_wp2
  exact⟨.tuple #[],results_none rfl _ _ _,⟨_,rfl⟩,.inr ⟨_,by show[((x.instrs.length+1:Nat),us,([]:List Int))] <+: plL x;rw[HUS.out];exact⟨_,rfl⟩,HJ3.out⟩⟩
 have HJ3:=Xa hJ3;have HK3:=Xa hk3';have HF3:=Xa hf3;have HS3:=Xa (HS6.kp hk3' hM.out hMx.out hM1.out hM2.out);have y3:=hk3'.cell y6 (hMn.out _ hzW);have i3:=hk3'.cell i6 hMx.out;have hz3:=hk3'.size;clear hJ3 hk3' hf3 hy' hR;refine hK _ _ ⟨y3,i3⟩ (fun hHeld=>?_);clear hK hHeld
 try simp only[Act.put,xA,xB,xC,xD,xE,xF]
 have hHeld:(fun w':World=>w'.cell? ⟨W.heap.size,0,none⟩=some (.func (.yield l) #[] #[])/\w'.cell? ⟨Bx,1,none⟩=some (.slice ia x.instrs.length ic)) W3:=⟨y3,i3⟩;refine Yl 10 ?_;refine J7 ?_;clear hHeld y6 i6 hya e1
 gi_wp2
 refine⟨trivial,(TL Fence.wide 6 trivial rfl ia x.instrs.length ic W3).mono ?_⟩;rintro e w4 ⟨rfl,hw4⟩;have hb4:Below W3.heap.size W3 w4:=by rw[hw4];exact Xb (Below.refl _ _) _
 have hz4:w4.heap.size=W3.heap.size+1:=by rw[hw4];simp
 have hs4:w4.cell? ⟨W3.heap.size,0,none⟩=some (.slice ia x.instrs.length ic):=by rw[hw4];simp[go_sem]
 have HS4:=Xa (HS3.below hb4 (by omega));have HJ4:=Xa (XM HJ.out HJ3.out hb4);have y4:=(Yn hb4 (by omega)).trans y3;have HB34:=Xa hb4;have I3:=Xa i3;clear hw4 hb4 y3 i3;have HS4C:=Xa hs4;have HZ4:=Xa hz4;have hz4':W.heap.size<w4.heap.size:=by omega
 have HW34:Hid (W3.heap.size<w4.heap.size):=Xa (by omega);have HBW:Hid (w.heap.size<=w4.heap.size):=Xa (by omega);have HY4:=Xa y4;clear hs4 hz4 y4
 gi_wp2
 have hMS:¬Ms W3.heap.size:=hMn.out _ (by omega);refine wpIn_rangeFunc_ownH (F:=Fence.wide) (n:=7) rfl (by decide) (gf:=84) (lb:=#[.pointer (some ⟨W3.heap.size,0,none⟩)]) rfl trivial (enters_of Tryd.func84 (by kernel_rfl) rfl) (Uz Fence.wide 6 trivial rfl (by decide) W3.heap.size n₀ ic Ms ia x.instrs L B (by omega) hS.le hM.out hMS w4 (Nat.le_trans hS.nn HBW.out) HW34.out HS4C.out (Xa ?inss)) (fun h k=>h.trans k) (fun V l' o o' h1 h2 h3 _=>ZG.putObj V l' o o' (Nat.le_trans hS.nn (Nat.le_trans HBW.out h1)) h2 h3) (Below.refl _ _) (fun _=>rfl)
  (fun pre V=>∃ps:List Pl,ps.map Pl.dat=(x.instrs.length+1,us,[])::pre.map (Ut x)/\J ps V/\TQ x L B Bx n₀ w.heap.size V/\V.cell? ⟨W.heap.size,0,none⟩=some (.func (.yield l) #[] #[])/\w4.heap.size<=V.heap.size)
  (fun c pre V=>c=.ret/\∃ps:List Pl,ps.map Pl.dat=(x.instrs.length+1,us,[])::pre.map (Ut x)/\Jx ps V)
  ?ownI ?ownX ?start
  (fun j a' V=>∃bi,a'=⟨#[.func (.yield l) #[] #[],.pointer (some ⟨Bx,0,none⟩),.pointer (some ⟨W.heap.size,0,none⟩),.int .i64 ((j:Nat):Int),.pointer (some ⟨bi,0,none⟩),undef,undef,undef,.func (.yield l) #[] #[],.pointer (some ⟨Bx,1,none⟩),.slice ia x.instrs.length ic,.int .i64 (x.instrs.length:Int),.int .i64 ((x.instrs.length:Int)+1),.pointer (some ⟨Bx,2,none⟩),.slice a5 us.length c5,.slice a6 us.length c6,.agg #[.slice a6 us.length c6,.slice none 0 0],.bool true,.bool false,.pointer (some ⟨Bx,1,none⟩),.slice ia x.instrs.length ic,.func (.func 84) #[] #[.pointer (some ⟨W3.heap.size,0,none⟩)],.int .i64 ((j:Nat):Int),Zbj x.instrs[j],undef,undef,undef,undef,undef,undef,undef,undef,undef,undef,undef,undef,undef,undef,undef,undef,undef,undef,undef,undef,undef,undef,undef,undef,undef,undef,undef,undef,undef],[]⟩/\w4.heap.size<=bi/\ZU V bi 0 x.instrs[j]) ?ownA ?assign ?body ?done ?stop
 case inss =>
  obtain⟨pa',pc',ia',ic',_,f1,_,_,f4⟩:=HS4.blk;simp only[Nat.zero_add]at f1;have hia:ia'=ia:=by
   have h3:=(HB34.cell (p:=⟨Bx,1,none⟩) (by show Bx<_;have:=hS.lt;omega)).trans I3.out;rw[f1]at h3;injection h3 with h3;injection h3
  rw[<-hia];exact f4
 case ownI =>
  rintro pre A V row ⟨ps,p1,p2,p3,p4,p5⟩ k q;have hblk:∀i,i<w4.heap.size->V.heap[i]?=A.heap[i]?:=fun i hi=>k.block i (by omega) (fun e=>by have:=(q i e.symm).1;omega)
  refine⟨ps,p1,HJ.out ps A V row p2 k (fun r e=>⟨by have:=(q r e).1;omega,(q r e).2⟩),p3.same (fun i hi=>hblk i (Nat.lt_of_lt_of_le hi HBW.out)) k.size,?_,Nat.le_trans p5 k.size⟩;exact(Xc (hblk _ hz4')).trans p4
 case ownX =>
  rintro c pre A V row ⟨rfl,ps,p0,p1⟩ k q;exact⟨rfl,ps,p0,HJX.out ps A V row p1 k (fun r e=>⟨by have:=(q r e).1;omega,(q r e).2⟩)⟩
 case start=>exact⟨[⟨x.instrs.length+1,a6,c6,us,none,0,[]⟩],rfl,HJ4.out,HS4.out,HY4.out,Nat.le_refl _⟩
 case ownA =>
  rintro j a' _ A V row ⟨bi,e,hbi,hins⟩ k q;have hbl:V.heap[bi]?=A.heap[bi]?:=by
   obtain⟨o,h1,h2⟩:=YM hins.1;refine k.block bi (Array.getElem?_eq_some_iff.1 h1).1 (fun e=>?_);obtain⟨_,o2,h3,h4⟩:=q bi e.symm;rw[show A.heap[bi]?=some o from h1]at h3;injection h3 with h3;subst h3;rw[h2]at h4;cases h4
  have hc:=fun o=>Xc (o:=o) hbl
  exact⟨bi,e,hbi,(hc _).trans hins.1,(hc _).trans hins.2.1,(hc _).trans hins.2.2.1,(hc _).trans hins.2.2.2.1,(hc _).trans hins.2.2.2.2⟩
 case assign =>
  intro l' pre j V K hI hK;have HI:=Xa hI;have HKK:=Xa hK;clear hI hK;unfold Zbj
  gi_wp2
  have hbA:Below V.heap.size V (V.alloc (.cells #[.int .i64 x.instrs[j].op,.int .i64 x.instrs[j].dst,.int .i64 x.instrs[j].a,.int .i64 x.instrs[j].b,.int .i64 x.instrs[j].imm] 44)):=Xb (Below.refl _ _) _;obtain⟨ps,p1,p2,p3,p4,p5⟩:=HI.out;refine HKK.out _ _ ⟨hbA.size,fun k o _ h1 _=>(hbA.block k (Array.getElem?_eq_some_iff.1 h1).1).trans h1⟩ (ZG.of_below hbA (by have:=HBW.out;have:=hS.nn;omega)) ⟨ps,p1,XM HJ.out p2 hbA,p3.below hbA (by have:=HBW.out;omega),(hbA.cell (p:=⟨W.heap.size,0,none⟩) (by show W.heap.size<_;omega)).trans p4,Nat.le_trans p5 hbA.size⟩ ⟨V.heap.size,rfl,p5,?_⟩;exact⟨by simp[go_sem],by simp[go_sem],by simp[go_sem],by simp[go_sem],by simp[go_sem]⟩
 case body =>
  rintro l' pre j a' V hl' _ ⟨ps,p1,p2,p3,p4,p5⟩ ⟨bi,rfl,hbi,hins⟩ hlen;have HP1:=Xa p1;have HP2:=Xa p2;have HP3:=Xa p3;have hop:=hops.out x.instrs[j] (List.getElem_mem _);obtain⟨kk,hkk⟩:=Int.eq_ofNat_of_zero_le (show 0<=x.instrs[j].op by omega);have hk1':1<=kk:=by omega
  have hk13:kk<=13:=by omega
  have hbil:bi<V.heap.size:=World.block_lt_of_cell? V _ hins.1;have HIN:Hid (ZU V bi 0 ⟨(kk:Int),x.instrs[j].dst,x.instrs[j].a,x.instrs[j].b,x.instrs[j].imm⟩):=Xa (by rw[<-hkk];exact hins);have hri:rdI ⟨(kk:Int),x.instrs[j].dst,x.instrs[j].a,x.instrs[j].b,x.instrs[j].imm⟩=rdI x.instrs[j]:=by rw[<-hkk]
  have hwi:writesI ⟨(kk:Int),x.instrs[j].dst,x.instrs[j].a,x.instrs[j].b,x.instrs[j].imm⟩=writesI x.instrs[j]:=by rw[<-hkk]
  have HRD:=Xa (Zdi bi kk x.instrs[j].dst x.instrs[j].a x.instrs[j].b x.instrs[j].imm V.drew (Xa HIN.out) hk1' hk13 (Xa HP3.op));have HWR:Hid (∀V',Below V.heap.size V V'->_):=Xa (fun V' (hV:Below V.heap.size V V')=>VO bi kk x.instrs[j].dst x.instrs[j].a x.instrs[j].b x.instrs[j].imm V' (Xa (by
   have hc:=fun o=>hV.cell (p:=⟨bi,o,none⟩) hbil
   exact⟨(hc _).trans HIN.1,(hc _).trans HIN.2.1,(hc _).trans HIN.2.2.1,(hc _).trans HIN.2.2.2.1,(hc _).trans HIN.2.2.2.2⟩)) hk1' hk13 (Xa (HP3.below hV (by have:=HBW.out;omega)).op))
  rw[hri]at HRD;simp only[hwi]at HWR;obtain⟨ui,hui⟩:∃u,u=rdI x.instrs[j]:=⟨_,rfl⟩;obtain⟨di,hdi⟩:∃u,u=writesI x.instrs[j]:=⟨_,rfl⟩;rw[<-hui]at HRD;simp only[<-hdi]at HWR;have HUI:=Xa hui;have HDI:=Xa hdi;have hul:ui.length<=2:=by rw[hui];exact ZbV _
  have hdl:di.length<=1:=by rw[hdi];unfold writesI;split<;>simp
  clear hui hdi hri hwi hins p1 p2 p3 hkk hop;have HPL:Hid (ps.length<x.instrs.length+1):=Xa (by
   have h:=congrArg List.length HP1.out;simp at h;omega)
  have hwj:IntKind.i64.wrap (((j:Nat):Int)+1)=((j:Nat):Int)+1:=by have:=j.isLt;rw[IntKind.wrap_i64];omega
  gi_wp2
  refine TD (fun w'=>w'.cell? ⟨W.heap.size,0,none⟩=some (.func (.yield l) #[] #[])) (fun hHeld=>?_);refine Yl 0 ?_;refine Yl 1 ?_;refine Yl 2 ?_;refine YA 3 (fun K hK=>?_);go_simp;refine⟨trivial,(CallsIn.inRound l' (callsIn_wide.2 HRD.out)).mono ?_⟩;rintro e V1 ⟨v1,rfl,hb1,ho1⟩;obtain⟨a1,c1,rfl,hi1⟩:=Xn ho1;have HB1:Hid (Below V.heap.size V V1):=Xa ⟨hb1.os,hb1.tape,hb1.output,hb1.size,hb1.block⟩;have HI1:Hid (Xe V1 V.heap.size V1.heap.size a1 ui):=Xa hi1;have y1:=(Yn HB1.out (by omega)).trans p4;have HVN:=Xa (Yo a1 ui.length c1 ui V.heap.size V1.heap.size V1 HI1 (Xa rfl) (by omega) (Nat.le_refl _));clear hb1 ho1 hi1 HRD;refine hK _ _ y1 (fun hHeld=>?_);clear hK;refine YA 4 (fun K hK=>?_);go_simp;refine⟨trivial,(CallsIn.inRound l' (callsIn_wide.2 HVN.out)).mono ?_⟩;rintro e V2 ⟨a2,c2,rfl,hb2,hi2⟩;have HB2:=Xa (Xj HB1.out hb2);have HI2:Hid (Xe V2 V.heap.size V2.heap.size a2 ui):=Xa (hi2.mono HB1.size (Nat.le_refl _));have y2:=(Yn HB2.out (by omega)).trans p4;have HW2:=Xa (HWR.out V2 HB2.out);clear hb2 hi2 HVN HWR y1 HI1 HB1;refine hK _ _ y2 (fun hHeld=>?_);clear hK;refine YA 5 (fun K hK=>?_);go_simp;refine⟨trivial,(CallsIn.inRound l' (callsIn_wide.2 HW2.out)).mono ?_⟩;rintro e V3 ⟨v3,rfl,hb3,ho3⟩;obtain⟨a3,c3,rfl,hi3⟩:=Xn ho3;have HI23:Hid (Xe V3 V.heap.size V3.heap.size a2 ui):=Xa ((HI2.keep hb3).mono (Nat.le_refl _) hb3.size);have HB3:=Xa (Xj HB2.out hb3);have HI3:Hid (Xe V3 V2.heap.size V3.heap.size a3 di):=Xa hi3;have y3:=(Yn HB3.out (by omega)).trans p4;have HVN:=Xa (Yo a3 di.length c3 di V2.heap.size V3.heap.size V3 HI3 (Xa rfl) (by omega) (Nat.le_refl _));clear hb3 ho3 hi3 HW2 y2 HB2 HI2 HI3;refine hK _ _ y3 (fun hHeld=>?_);clear hK;refine YA 6 (fun K hK=>?_);go_simp;refine⟨trivial,(CallsIn.inRound l' (callsIn_wide.2 HVN.out)).mono ?_⟩;rintro e V4 ⟨a4,c4,rfl,hb4,hi4⟩;have HI24:Hid (Xe V4 V.heap.size V4.heap.size a2 ui):=Xa ((HI23.keep hb4).mono (Nat.le_refl _) hb4.size);have HB4:=Xa (Xj HB3.out hb4);have HI4:Hid (Xe V4 V.heap.size V4.heap.size a4 di):=Xa (hi4.mono HB3.size (Nat.le_refl _));have y4:=(Yn HB4.out (by omega)).trans p4;clear hb4 hi4 HVN y3 HB3 HI23;refine hK _ _ y4 (fun hHeld=>?_);clear hK;refine Yl 7 ?_;have hVz:w.heap.size<=V.heap.size:=by have:=HBW.out;omega
  have HS5:=Xa (HP3.below HB4.out hVz);obtain⟨fn,tmps,asg,bo,hy,hR⟩:=Tv (l':=l') (m':=4) (HY.out ps ⟨(j:Nat)+1,a2,c2,ui,a4,c4,di⟩ V4 (XM HJ.out HP2.out HB4.out) ⟨hPd.out _ (by have h:=Za1 x j;unfold Ut at h;rw[<-HUI.out,<-HDI.out]at h;exact h),HI24.mono hVz (Nat.le_refl _),HI4.mono hVz (Nat.le_refl _)⟩ (by have:=HPL.out;omega));have hy':(Instr.yield l #[.int .i64 (((j:Nat):Int)+1),.agg #[.slice a2 ui.length c2,.slice a4 di.length c4]]).run Tryd.prog V4=_:=hy;clear hy;refine YA 8 (fun K hK=>?_);go_simp;refine hR.mono ?_;rintro e V5 (⟨rfl,hJ5,hk5,hf5⟩ | ⟨rfl,hJ5,hk5,hf5⟩);rotate_left
  ·have y5:=hk5.cell y4 (hMn.out _ hzW)
   have HJ5:=Xa hJ5;have HK5:=Xa hk5;have HF5:=Xa hf5;clear hJ5 hk5 hf5 hy' hR;refine hK _ _ y5 (fun hHeld=>?_);clear hK;refine Yl 9 ?_;refine J7 ?_
   gi_wp2
   have hkV:ZG n₀ Ms V V5:=(ZG.of_below HB4.out (Nat.le_trans hS.nn hVz)).trans HK5.out;refine⟨⟨hkV.size,fun k o h1 h2 h3=>HF5.same k o (by omega) ((HB4.block k (Array.getElem?_eq_some_iff.1 h2).1).trans h2) h3⟩,rfl,ps++[⟨(j:Nat)+1,a2,c2,ui,a4,c4,di⟩],?_,HJ5.out⟩;rw[List.map_append,HP1.out,List.map_append];show _=(x.instrs.length+1,us,[])::(pre.map (Ut x)++[Ut x j]);rw[<-List.cons_append];congr 1;unfold Ut Pl.dat;simp only[List.map_cons,List.map_nil];rw[HUI.out,HDI.out]
  have y5:=hk5.cell y4 (hMn.out _ hzW);have HJ5:=Xa hJ5;have HK5:=Xa hk5;have HF5:=Xa hf5;clear hJ5 hk5 hf5 hy' hR;refine hK _ _ y5 (fun hHeld=>?_);clear hK
  try simp only[Act.put,xA,xB,xC,xD,xE,xF]
  refine Yl 9 ?_;refine J7 ?_
  gi_wp2
  have hkV:ZG n₀ Ms V V5:=(ZG.of_below HB4.out (Nat.le_trans hS.nn hVz)).trans HK5.out;refine⟨⟨hkV.size,fun k o h1 h2 h3=>HF5.same k o (by omega) ((HB4.block k (Array.getElem?_eq_some_iff.1 h2).1).trans h2) h3⟩,hkV,ps++[⟨(j:Nat)+1,a2,c2,ui,a4,c4,di⟩],?_,HJ5.out,HS5.kp HK5.out hM.out hMx.out hM1.out hM2.out,y5,Nat.le_trans p5 hkV.size⟩;rw[List.map_append,HP1.out,List.map_append];show _=(x.instrs.length+1,us,[])::(pre.map (Ut x)++[Ut x j]);rw[<-List.cons_append];congr 1;unfold Ut Pl.dat;simp only[List.map_cons,List.map_nil];rw[HUI.out,HDI.out]
 case done =>
  rintro D ys V hD rfl ⟨ps,p1,p2,p3,p4,p5⟩ hKD;have HP1:=Xa p1;have HP2:=Xa p2;have HP3:=Xa p3;have HKD:=Xa hKD;have HP4:=Xa p4;obtain⟨pa',pc',ia',ic',f0,f1,_,f3,_⟩:=p3.blk;have HPH:=Xa f3;have hBxV:Bx<V.heap.size:=World.block_lt_of_cell? V _ f0;have f0a:=fun o=>(World.cell?_alloc_lt V o ⟨Bx,0,none⟩ hBxV).trans f0
  have hp4V:W.heap.size<V.heap.size:=by omega
  clear f1 f3 p1 p2 p3 hKD f0 p4;obtain⟨i0,hi0,hz0,hz1,hz2⟩:=info_parts Tryd.infoVn
  gi_wp2
  clear f0a
  gi_loopw [38] (fun i wr=>∃k:Nat,k<=x.phis.length/\i=.int .i64 k/\Hid (Below V.heap.size V wr)/\wr.cell? ⟨V.heap.size,0,none⟩=some (.slice none 0 0)/\wr.frozen? ⟨V.heap.size,1,none⟩=false/\∃u,wr.cell? ⟨V.heap.size,1,none⟩=some u/\Hid (wr.ownsRow (V.heap.size+1) 64 1 u k (((x.phis.map Ph.dst).take k).map (Value.int .i64)))) (fun i _=>x.phis.length-(intOf i).toNat)
  case atStart=>exact⟨0,Nat.zero_le _,rfl,Xa (Xb (Below.refl _ _) _),by simp[go_sem],by simp[go_sem],.slice none 0 0,by simp[go_sem],Xa (World.ownsRow_nil _ _ _ _)⟩
  case round =>
   obtain⟨k,hkn,rfl,HB,c0,z1,u,c1,HO⟩:=hrel;by_cases hlt:k<x.phis.length
   ·obtain⟨b,o,rfl,hbB,ap,cp,h1,h2,_⟩:=HPH.out k hlt
    have hbV:b<V.heap.size:=World.block_lt_of_cell? V _ h1;have g1:=(HB.cell (p:=⟨b,o+k*2,none⟩) hbV).trans h1;have g2:=(HB.cell (p:=⟨b,o+k*2+1,none⟩) hbV).trans h2;have HN:Hid ((x.phis.map Ph.dst).take (k+1)=(x.phis.map Ph.dst).take k++[x.phis[k].dst]):=Xa (by rw[XF _ _ (by simpa using hlt)];simp);have hsz:V.heap.size<wr.heap.size:=World.block_lt_of_cell? wr _ c0;clear h1 h2;generalize x.phis[k]=ph at *;generalize (x.phis.map Ph.dst).take k=dk at *
    gi_wp2_with (gi_at_builtin;refine wpListIn_append_own _ rfl _ _ 90 rfl (V.heap.size+1) 64 i0 (.int .i64 0) 1 8 Tryd.underlying90 hi0 hz0 hz1 hz2 rfl (by decide) _ _ _ rfl ((HO.alloc _).alloc _) ⟨wr.heap.size+1,0,none⟩ 1 1 [.int .i64 ph.dst] rfl rfl ?c1 ?c2 ?c3 ?c4 ?c5 ?_)
    case c1 =>
     intro j u hj
     match j,hj with
     | 0,hj=>simp at hj;subst hj;simp[Addr.add,go_sem]
    case c2=>intro u hu;simp at hu;subst hu;rfl
    case c3=>unfold maxLen;omega
    case c4=>omega
    case c5=>simp;omega
    intro v1 w1 hown1 hgrow1 _;obtain⟨av,cv,hv,_⟩:=Xn (xs:=dk++[ph.dst]) (by rw[YO];exact hown1);have HV:=Xa hv;have HO1:=Xa hown1;have HB1:=Xa (XG (Xb (Xb HB.out _) _) hgrow1 ((HO.alloc _).alloc _) (by omega) (by have:=HB.size;simp;omega));have hbk:=Zq hgrow1 ((HO.alloc _).alloc _) (b:=V.heap.size) (by omega) (by simp;omega);have k0:w1.cell? ⟨V.heap.size,0,none⟩=some (.slice none 0 0):=(Xc hbk).trans (((Xb (Xb (Below.refl wr.heap.size wr) _) _).cell (p:=⟨V.heap.size,0,none⟩) hsz).trans c0);have k1:w1.cell? ⟨V.heap.size,1,none⟩=some u:=(Xc hbk).trans (((Xb (Xb (Below.refl wr.heap.size wr) _) _).cell (p:=⟨V.heap.size,1,none⟩) hsz).trans c1);have kz:w1.frozen? ⟨V.heap.size,1,none⟩=false:=by
     rw[World.frozen?_of_block (a:=⟨V.heap.size,1,none⟩) hbk];exact((Xb (Xb (Below.refl wr.heap.size wr) _) _).frozen (p:=⟨V.heap.size,1,none⟩) hsz).trans z1
    clear hown1 hgrow1 hbk c0 c1 z1;rw[hv];clear hv
    gi_wp2
    have hv2:=HV.out;rw[List.length_append,List.length_cons,List.length_nil,Nat.zero_add]at hv2;rw[<-hv2];clear hv2;refine⟨⟨k+1,by omega,by go_num,Xa (HB1.setCell (Nat.le_refl _) _),?_,?_,v1,?_,Xa ?_⟩,by simp[intOf];omega⟩
    ·exact(World.cell?_setCell_other w1 ⟨V.heap.size,1,none⟩ ⟨V.heap.size,0,none⟩ v1 (by simp)).trans k0
    ·exact(World.frozen?_setCell _ _ _ _).trans kz
    ·exact World.cell?_setCell_same' w1 _ v1 (by rw[k1];rfl)
    ·rw[HN.out,YO]
     exact HO1.kept (row:=some V.heap.size) ⟨rfl,rfl,rfl,by simp[World.setCell],fun k _ hk=>Below.heap_setCell _ _ _ _ (fun e=>hk (by rw[e]))⟩ (Or.inr (fun e=>by have:=(HO1.lt _ e).1;omega))
   ·have hke:k=x.phis.length:=by omega
    subst hke;have hown:=HO.out;rw[List.take_of_length_le (by simp)]at hown;obtain⟨av,cv,rfl,hiv⟩:=Xn hown;have HIV:=Xa hiv;have hVz:w.heap.size<=V.heap.size:=by have:=HBW.out;omega
    have hdz:D<V.heap.size:=(Array.getElem?_eq_some_iff.1 HKD.out).1;have HDr:=Xa ((HB.block D hdz).trans HKD.out);have yr:=(HB.cell (p:=⟨W.heap.size,0,none⟩) hp4V).trans HP4.out;have HPL:Hid (ps.length=x.instrs.length+1):=Xa (by
     have h:=congrArg List.length HP1.out;simp[Vb]at h;omega)
    clear hown hiv;obtain⟨fn,tmps,asg,bo,hy,hR⟩:=HY.out ps ⟨0,none,0,[],av,cv,x.phis.map Ph.dst⟩ wr (XM HJ.out HP2.out HB.out) ⟨hPd.out _ (VG x),fun i hi=>absurd hi (by simp),HIV.mono (by omega) (Nat.le_refl _)⟩ (by have:=HPL.out;omega);have hy':(Instr.yield l #[.int .i64 0,.agg #[.slice none 0 0,.slice av (x.phis.map Ph.dst).length cv]]).run Tryd.prog wr=_:=hy;rw[List.length_map]at hy' c1;clear hy
    gi_wp2
    refine hR.mono ?_;rintro e V9 (⟨rfl,hJ9,hk9,hf9⟩ | ⟨rfl,hJ9,hk9,hf9⟩);rotate_left
    ·have HJ9:=Xa hJ9
     have HD9:=Xa (hf9.same D _ (by omega) HDr.out rfl);clear hJ9 hk9 hf9 hy' hR
     gi_wp2
     refine YX HD9.out ⟨.tuple #[],results_none rfl _ _ _,⟨_,rfl⟩,.inr ⟨ps++[⟨0,none,0,[],av,cv,x.phis.map Ph.dst⟩],?_,HJX.putObj _ HJ9.out (by omega) HD9.out rfl⟩⟩;rw[List.map_append,HP1.out,HUS.out];exact List.prefix_refl _
    have HJ9:=Xa hJ9;have HD9:=Xa (hf9.same D _ (by omega) HDr.out rfl);clear hJ9 hk9 hf9 hy' hR
    gi_wp2
    refine YX HD9.out ⟨.tuple #[],results_none rfl _ _ _,⟨_,rfl⟩,HE.out (ps++[⟨0,none,0,[],av,cv,x.phis.map Ph.dst⟩]) _ ?_ (HJ.putObj _ HJ9.out (by omega) HD9.out rfl)⟩;rw[List.map_append,HP1.out,HUS.out];rfl
 case stop =>
  rintro D c pre V hD ⟨q,hq⟩ ⟨rfl,ps,p0,p1⟩ hKD;have HP0:=Xa p0;have HQ:=Xa hq;clear p0 hq;have HP1:=Xa p1;have HKD:=Xa hKD;clear p1 hKD
  gi_wp2
  refine YX HKD.out ⟨.tuple #[],results_none rfl _ _ _,⟨_,rfl⟩,.inr ⟨ps,?_,HJX.putObj _ HP1.out (by omega) HKD.out rfl⟩⟩;rw[HP0.out,HUS.out,HQ.out];obtain⟨t,ht⟩:=ZbR x.instrs.length q;refine⟨t.map (Ut x)++[(0,[],x.phis.map Ph.dst)],?_⟩;unfold plL;rw[List.cons_append,<-List.append_assoc,<-List.map_append,ht]
end Go.Proofs.YtbofmlmdgkblkaaDoor
