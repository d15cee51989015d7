import Derived.Test.YthgikffcdgpgiaaGreatDoorW10
namespace Go.Proofs.YthgikffcdgpgiaaGreatDoor
open Go.RowKit Go.Shelf
section
attribute [local go_sem] Oper.semAt_some
structure Tv(x:Xi)(L B Bx n₀ n₁:Nat)(V:World):Prop where
 op:Yf V
 ter:XT V
 blk:Y8 V L B Bx 0 x
 lt:Bx<n₁
 le:B<=n₀
 g1:0 < n₀
 g2:2 < n₀
 nn:n₀<=n₁
theorem Tv.same{x:Xi}{L B Bx n₀ n₁:Nat}{V V':World}(h:Tv x L B Bx n₀ n₁ V)(e:∀k,k<n₁->V'.heap[k]?=V.heap[k]?)(hs:V.heap.size<=V'.heap.size):Tv x L B Bx n₀ n₁ V' :=
 ⟨h.op.of_block (e _ (Nat.lt_of_lt_of_le h.g1 h.nn)) hs,h.ter.of_block (e _ (Nat.lt_of_lt_of_le h.g2 h.nn)) hs,h.blk.keepS (fun k _ h2=>e k (Nat.lt_of_lt_of_le (Nat.lt_of_lt_of_le h2 h.le) h.nn)) (e _ h.lt),h.lt,h.le,h.g1,h.g2,h.nn⟩
theorem Tv.below{x:Xi}{L B Bx n₀ n₁:Nat}{V V':World}(h:Tv x L B Bx n₀ n₁ V)(k:Below V.heap.size V V')(hn:n₁<=V.heap.size):Tv x L B Bx n₀ n₁ V':=h.same (fun i hi=>k.block i oM) k.size
theorem Tv.kp{x:Xi}{L B Bx n₀ n₁:Nat}{Ms:Nat->Prop}{V V':World}(h:Tv x L B Bx n₀ n₁ V)(k:Zy n₀ Ms V V')(hM:∀k,L<=k->k<B->¬Ms k)(hMx:¬Ms Bx)(hM1:¬Ms 0)(hM2:¬Ms 2):Tv x L B Bx n₀ n₁ V':=by
 have hb:V'.heap[Bx]?=V.heap[Bx]?:=by
  obtain⟨pa,pc,ia,ic,e0,_⟩:=h.blk;exact k.block e0 hMx
 exact⟨h.op.of_block (k.low _ h.g1 hM1) k.size,h.ter.of_block (k.low _ h.g2 hM2) k.size,h.blk.keepS (fun i h1 h2=>k.low i (Nat.lt_of_lt_of_le h2 h.le) (hM i h1 h2)) hb,h.lt,h.le,h.g1,h.g2,h.nn⟩
end
section
variable {F : Fence} {n : Nat} {P : Program} {α : Type}
theorem Yz.keepsF{W V:World}{D:Nat}{r:Loop}(h:Yz W D r)(k:KeepsFrom D W V):Yz V D r:=⟨k.same _ _ oM h.1 rfl,k.same _ _ (Nat.le_refl _) h.2 rfl⟩
theorem Uv{A V:World}{B B':Nat}(h:KeepsFrom B A V)(hB:B<=B'):KeepsFrom B' A V:=⟨h.size,fun k o h1 h2 h3=>h.same k o oM h2 h3⟩
end
section
variable {F : Fence} {n : Nat} {P : Program} {α : Type}
def Zdz(F:Fence)(n:Nat)(P:Program)(g:Nat)(lb:Array Value)(encs:Nat->α->Array Value)(Px:Nat->α->World->Prop)(Kp:World->World->Prop)(S Sp:List α->Prop)(N:Nat)(turn vary:Prop)(w:World):Prop :=
 ∀(l:Nat)(J:Nat->List α->World->Prop)(Jx:List α->World->Prop)(W:World),Below w.heap.size w W->l<W.heap.size->(∀z,OwnFrom W.heap.size (J z))->OwnFrom W.heap.size Jx->(turn->∀z s V V',W.heap.size<=z->J z s V->V.grownBy V' (some z)->J z s V') ->
  (vary->(∀z z' s V V',W.heap.size<=z'->J z s V->Below W.heap.size V V'->J z' s V')/\∀s V V',Jx s V->Below W.heap.size V V'->Jx s V') ->
  (∀z pre x V,W.heap.size<=z->J z pre V->Px z x V->pre.length<N->YieldAt F (n-1) P l (encs z x) V fun e V'=>(e=.returned (.bool true)/\J z (pre++[x]) V'/\Kp V V'/\KeepsFrom W.heap.size V V')\/(e=.returned (.bool false)/\Jx (pre++[x]) V'/\Kp V V'/\KeepsFrom W.heap.size V V')) ->
  (∀z V,W.heap.size<=z->z<V.heap.size->Below W.heap.size W V->J z [] V)->CallsIn F n P g (#[.func (.yield l) #[] #[]]++lb) W fun e V=>(∃v,e=.returned v)/\((∃z xs,W.heap.size<=z/\S xs/\J z xs V)\/∃pre,Sp pre/\Jx pre V)
def Zgb{α:Type}(B:Nat)(Kp:World->World->Prop)(I:List α->World->Prop)(Ix:Code->List α->World->Prop)(xs:List α)(W:World):Exit->Act->World->Prop
 | .normal,_,W'=>KeepsFrom B W W'/\Kp W W'/\I xs W'
 | .ret,_,W'=>KeepsFrom B W W'/\Kp W W'/\Ix .ret xs W'
 | .exit id,_,W'=>KeepsFrom B W W'/\Kp W W'/\Ix (.exit id) xs W'
 | .goto t,_,W'=>KeepsFrom B W W'/\Kp W W'/\Ix (.goto t) xs W'
 | .panic _,_,_=>False
 | .outgrown,_,_=>False
theorem Zfe{g:Operand}{ps:Array Tmp}{asg bo:Code}{Q:Exit->Act->World->Prop}{a:Act}{w:World}(hro:F.round=none)(h1:1<=n){gf:Nat}{lb:Array Value}(hg:a.eval g=.func (.func gf) #[] lb)(hFg:F.fn gf)(eg:∀args w,(callFunc gf args).run P w=.ok (.enter gf args) w)
 {encs:Nat->α->Array Value} {Px:Nat->α->World->Prop} {Kp:World->World->Prop} {S Sp:List α->Prop} {N:Nat} {turn vary:Prop} {w0:World} (hseq:Zdz F (n-1) P gf lb encs Px Kp S Sp N turn vary w0) (hPx:∀z,OwnFrom w.heap.size (Px z)) (hKt:∀{A B C:World},Kp A B->Kp B C->Kp A C) (hKb:∀(W:World)(l:Nat)(o o':Obj),w.heap.size<=l->W.heap[l]?=some o->o.isCells=false->Kp W (W.putObj l o')) (hb0:Below w0.heap.size w0 w) (hps:∀z x,(encs z x).size=ps.size)
 (I:Nat->List α->World->Prop) (Ix:Code->List α->World->Prop) (hI:∀z,OwnFrom w.heap.size (I z)) (hIx:∀c,OwnFrom w.heap.size (Ix c)) (hIz:turn->∀z s V V',w.heap.size<=z->I z s V->V.grownBy V' (some z)->I z s V') (hvar:vary->(∀z z' s V V',w.heap.size<=z'->I z s V->Below (w.heap.size+2) V V'->I z' s V')/\∀c s V V',Ix c s V->Below (w.heap.size+2) V V'->Ix c s V') (h0:∀z V,w.heap.size<=z->z<V.heap.size->Below w.heap.size w V->I z [] V) (Ax:Nat->α->Act->World->Prop) (hAx:∀z x a',OwnFrom w.heap.size (fun (_:Unit) W=>Ax z x a' W))
 (hassign:∀(l z:Nat)(pre:List α)(x:α)(W:World)(K:Act->World->Prop),w.heap.size<=z->I z pre W->Px z x W->(∀a' W',KeepsOthers W W'->Kp W W'->I z pre W'->Px z x W'->Ax z x a' W'->K a' W')->asg.wpIn (F.inRound l) (n-1-1) P (Exit.then K (fun _ _ _=>False)) { tmps:=(ps.zip (encs z x)).foldl (fun t (p,v)=>t.setIfInBounds p v) a.tmps,defers:=[] } W)
 (hbody:∀(l z:Nat)(pre:List α)(x:α)(a':Act)(W:World),w.heap.size<=z->w.heap.size<=l->(∃r,W.heap[l]?=some (.loop r))->I z pre W->Px z x W->Ax z x a' W->pre.length<N->bo.wpIn (F.inRound l) (n-1-1) P (Zgb w.heap.size Kp (I z) Ix (pre++[x]) W) a' W)
 (hdone:∀(D z:Nat)(xs:List α)(W:World),w.heap.size<=D->w.heap.size<=z->S xs->I z xs W->W.heap[D]?=some (.deferred (some []))->Q .normal { a with defers:={ target:=.collected D,args:=#[] } :: a.defers } W)
 (hstop:∀(D:Nat)(c:Code)(pre:List α)(W:World),w.heap.size<=D->Sp pre->Ix c pre W->W.heap[D]?=some (.deferred (some []))->c.wpIn F n P Q { a with defers:={ target:=.collected D,args:=#[] } :: a.defers } W) :
 (Code.rangeFunc g ps asg bo).wpIn F n P Q a w:=by
 refine wpIn_rangeFunc (fun fn hfn=>?_);rw[hro];have hrun:=run_enterLoop_outer (P:=P) (w:=w) fn a.tmps ps asg bo;generalize hW:(w.alloc (.deferred (some []))).alloc (.loop { state:=.ready,pending:=none,fn,tmps:=a.tmps,params:=ps,assign:=asg,body:=bo,defers:=w.heap.size })=W1 at hrun;have hR1:Yz W1 w.heap.size (ZR fn a.tmps ps asg bo w.heap.size .ready none):=by
  subst hW;refine⟨?_,?_⟩
  ·have:=World.alloc_heap_new (w.alloc (.deferred (some []))) (.loop (ZR fn a.tmps ps asg bo w.heap.size .ready none))
   rwa[World.size_alloc]at this
  ·exact(Below.heap_alloc _ _ _ sP).trans (World.alloc_heap_new w _)
 have hz1:W1.heap.size=w.heap.size+2:=by subst hW;simp
 have hBw:Below w.heap.size w W1:=by subst hW;exact Xb (Xb (Below.refl w.heap.size w) _) _
 have hB1:Below w0.heap.size w0 W1:=hb0.trans (hBw.mono hb0.size);clear hW;refine⟨_,_,W1,{ target:=.fn (.func gf) lb,args:=#[.func (.yield (w.heap.size+1)) #[] #[]] },W1,gf,#[.func (.yield (w.heap.size+1)) #[] #[]]++lb,W1,hrun,?_,?_,?_,fun _=>h1,?_⟩
 ·simp only[resolve,hg]
  simp[go_sem]
 ·intro f' hf'
  simp[Target.leads]at hf';subst hf';exact hFg
 ·simp[invoke,go_sem,eg]
 ·have ow:∀{r:Loop}{A V:World}{row:Option Nat},Yz A w.heap.size r->A.grownBy V row->(∀k,row=some k->W1.heap.size<=k/\∃o:Obj,A.heap[k]?=some o/\o.isCells=false)->Yz V w.heap.size r:=fun h k q=>h.own k (fun z e=>by have:=(q z e).1;omega)
  have fr:∀{A:World}{row:Option Nat},(∀k,row=some k->W1.heap.size<=k/\∃o:Obj,A.heap[k]?=some o/\o.isCells=false)->∀k,row=some k->w.heap.size<=k/\∃o:Obj,A.heap[k]?=some o/\o.isCells=false:=fun q k e=>⟨by have:=(q k e).1;omega,(q k e).2⟩
  refine(hseq (w.heap.size+1) (fun z pre W=>I z pre W/\Yz W w.heap.size (ZR fn a.tmps ps asg bo w.heap.size .ready none)) (fun pre W=>∃c,Ix c pre W/\Yz W w.heap.size (ZR fn a.tmps ps asg bo w.heap.size .done (some c))) W1 hB1 oM
   (fun z s A V row hs k q=>⟨hI z s A V row hs.1 k (fr q),ow hs.2 k q⟩) (fun s A V row hs k q=>by obtain⟨c,hc,hr⟩:=hs;exact⟨c,hIx c s A V row hc k (fr q),ow hr k q⟩) (fun ht z s V V' hz hs k=>⟨hIz ht z s V V' oM hs.1 k,hs.2.own k (fun q e=>by injection e with e;omega)⟩)
   (fun hv=>⟨fun z z' s V V' hz hs k=>⟨(hvar hv).1 z z' s V V' oM hs.1 (k.mono oM),⟨(k.block _ oM).trans hs.2.1,(k.block _ oM).trans hs.2.2⟩⟩,fun s V V' hs k=>by obtain⟨c,hc,hr⟩:=hs;exact⟨c,(hvar hv).2 c s V V' hc (k.mono oM),⟨(k.block _ oM).trans hr.1,(k.block _ oM).trans hr.2⟩⟩⟩) ?_ (fun z V hz hzV hV=>⟨h0 z V oM hzV (hBw.trans (hV.mono oM)),⟨(hV.block _ oM).trans hR1.1,(hV.block _ oM).trans hR1.2⟩⟩)).mono ?_
  ·rintro z pre x W hz ⟨hi,hr⟩ hpx hlen
   have hy:(Instr.yield (w.heap.size+1) (encs z x)).run P W=_:=run_yield (P:=P) hr.1 (hps z x);refine⟨_,_,_,_,hy,roundIn_of_wpIn hfn (hassign _ z pre x W _ oM hi hpx (fun a' W' hko hkp hi' hpx' hax=>?_))⟩;have hr':=hr.keeps hko;refine⟨_,run_beginRound hr'.1 rfl,?_⟩;have hrb:Yz (W'.putObj (w.heap.size+1) (.loop (ZR fn a.tmps ps asg bo w.heap.size .busy none))) w.heap.size (ZR fn a.tmps ps asg bo w.heap.size .busy none):=hr'.put _;have hkb:Kp W (W'.putObj (w.heap.size+1) (.loop (ZR fn a.tmps ps asg bo w.heap.size .busy none))):=hKt hkp (hKb _ _ _ _ oM hr'.1 rfl);refine wpIn_mono (hbody _ z pre x a' _ oM oM ⟨_,hrb.1⟩ ((hI z).putObj _ hi' oM hr'.1 rfl) ((hPx z).putObj _ hpx' oM hr'.1 rfl) ((hAx z x a').putObj (s:=()) _ hax oM hr'.1 rfl) hlen) ?_;have kf:∀{V:World}(o:Obj),KeepsFrom w.heap.size (W'.putObj (w.heap.size+1) (.loop (ZR fn a.tmps ps asg bo w.heap.size .busy none))) V->KeepsFrom W1.heap.size W (V.putObj (w.heap.size+1) o):=fun {V} o h=>(((hko.from _).trans (KeepsFrom.of_grownBy (grownBy_putObj' W' _ _) (fun j e=>by cases e;omega))).trans (Uv h oM)).trans (KeepsFrom.of_grownBy (grownBy_putObj' V _ _) (fun j e=>by cases e;omega))
   rintro e a3 V hp;cases e with
   | normal =>
    have hv:=hrb.keepsF hp.1;exact⟨_,_,hv.fin none,.inl ⟨rfl,⟨(hI z).putObj _ hp.2.2 oM hv.1 rfl,hv.put _⟩,hKt (hKt hkb hp.2.1) (hKb _ _ _ _ oM hv.1 rfl),kf _ hp.1⟩⟩
   | ret =>
    have hv:=hrb.keepsF hp.1;exact⟨_,_,hv.fin (some .ret),.inr ⟨rfl,⟨.ret,(hIx _).putObj _ hp.2.2 oM hv.1 rfl,hv.put _⟩,hKt (hKt hkb hp.2.1) (hKb _ _ _ _ oM hv.1 rfl),kf _ hp.1⟩⟩
   | exit id =>
    have hv:=hrb.keepsF hp.1;exact⟨_,_,hv.fin (some (.exit id)),.inr ⟨rfl,⟨.exit id,(hIx _).putObj _ hp.2.2 oM hv.1 rfl,hv.put _⟩,hKt (hKt hkb hp.2.1) (hKb _ _ _ _ oM hv.1 rfl),kf _ hp.1⟩⟩
   | goto t =>
    have hv:=hrb.keepsF hp.1;exact⟨_,_,hv.fin (some (.goto t)),.inr ⟨rfl,⟨.goto t,(hIx _).putObj _ hp.2.2 oM hv.1 rfl,hv.put _⟩,hKt (hKt hkb hp.2.1) (hKb _ _ _ _ oM hv.1 rfl),kf _ hp.1⟩⟩
   | panic ch=>exact hp.elim
   | outgrown=>exact hp.elim
  ·rintro e V ⟨⟨v,rfl⟩,(⟨z,xs,hz,hS,hi,hr⟩ | ⟨pre,hSp,c,hi,hr⟩)⟩
   ·exact⟨none,_,run_endLoop hr.1 (by simp[ZR]),hdone _ z xs _ (Nat.le_refl _) oM hS ((hI z).putObj _ hi oM hr.1 rfl) (hr.put _).2⟩
   ·exact⟨some c,_,run_endLoop hr.1 (by simp[ZR]),hstop _ c pre _ (Nat.le_refl _) hSp ((hIx c).putObj _ hi oM hr.1 rfl) (hr.put _).2⟩
end
end Go.Proofs.YthgikffcdgpgiaaGreatDoor
