import Derived.RangeFuncNested
import Derived.RangeFuncBound
import Derived.RangeFuncCalls
import Derived.RangeFuncLeaves
import Derived.Shelf.Abstract
import Derived.Shelf.RegionOpen
import Derived.OwnWalkIn
import Derived.TacticsInMore
import Derived.LoopNIn
import Derived.LoopIn
import Derived.Lib.TrailingZeros
import Derived.Laws.Bits64b
import Derived.Test.YthgikffcdgpgiaaGreatDoorOC0
namespace Go.Proofs.YthgikffcdgpgiaaGreatDoor
set_option maxHeartbeats 2000000
set_option maxRecDepth 100000
open Go.RowKit Go.Shelf
section
variable {F : Fence} {n : Nat} {P : Program} {α : Type}
def Zgw(F:Fence)(n:Nat)(P:Program)(g:Nat)(lb:Array Value)(encs:α->Array Value)(Px:α->World->Prop)(Kp:World->World->Prop)(S:List α->Prop)(N:Nat)(w:World):Prop :=
 ∀(l:Nat)(J:List α->World->Prop)(W:World),Below w.heap.size w W->l<W.heap.size->OwnFrom W.heap.size J ->
  (∀pre x V,J pre V->Px x V->pre.length<N->YieldAt F (n-1) P l (encs x) V fun e V'=>e=.returned (.bool true)/\J (pre++[x]) V'/\Kp V V'/\KeepsFrom W.heap.size V V') ->
  J [] W->CallsIn F n P g (#[.func (.yield l) #[] #[]]++lb) W fun e V=>(∃v,e=.returned v)/\∃xs,S xs/\J xs V
def ZR(fn:FuncId)(tm:Array Value)(ps:Array Tmp)(asg bo:Code)(D:Nat)(st:LoopState)(pe:Option Code):Loop:={ state:=st,pending:=pe,fn,tmps:=tm,params:=ps,assign:=asg,body:=bo,defers:=D }
def Yz(W:World)(D:Nat)(r:Loop):Prop:=W.heap[D+1]?=some (.loop r)/\W.heap[D]?=some (.deferred (some []))
theorem Yz.put{W:World}{D:Nat}{r:Loop}(h:Yz W D r)(r':Loop):Yz (W.putObj (D+1) (.loop r')) D r' :=
 ⟨World.putObj_heap_same (Array.getElem?_eq_some_iff.1 h.1).1,(World.putObj_heap_other oM).trans h.2⟩
theorem Yz.own{W V:World}{D:Nat}{r:Loop}{row:Option Nat}(h:Yz W D r)(g:W.grownBy V row)(hr:∀k,row=some k->D+2<=k):Yz V D r :=
 ⟨(g.block _ (Array.getElem?_eq_some_iff.1 h.1).1 (fun e=>by have:=hr _ e.symm;omega)).trans h.1,(g.block _ (Array.getElem?_eq_some_iff.1 h.2).1 (fun e=>by have:=hr _ e.symm;omega)).trans h.2⟩
theorem Yz.keeps{W V:World}{D:Nat}{r:Loop}(h:Yz W D r)(k:KeepsOthers W V):Yz V D r:=⟨k.same _ _ h.1 rfl,k.same _ _ h.2 rfl⟩
theorem Yz.fin{W:World}{D:Nat}{fn:FuncId}{tm:Array Value}{ps:Array Tmp}{asg bo:Code}(h:Yz W D (ZR fn tm ps asg bo D .busy none))(j:Option Code):(Instr.endRound (D+1) j).run P W=.ok (.bool j.isNone) (W.putObj (D+1) (.loop (ZR fn tm ps asg bo D (if j.isNone then .ready else .done) j))):=run_endRound j h.1
theorem Zfb{g:Operand}{ps:Array Tmp}{asg bo:Code}{Q:Exit->Act->World->Prop}{a:Act}{w:World}(hro:F.round=none)(h1:1<=n){gf:Nat}{lb:Array Value}(hg:a.eval g=.func (.func gf) #[] lb)(hFg:F.fn gf)(eg:∀args w,(callFunc gf args).run P w=.ok (.enter gf args) w)
 {encs:α->Array Value} {Px:α->World->Prop} {Kp:World->World->Prop} {S:List α->Prop} {N:Nat} {w0:World} (hseq:Zgw F (n-1) P gf lb encs Px Kp S N w0) (hPx:OwnFrom w.heap.size Px) (hKt:∀{A B C:World},Kp A B->Kp B C->Kp A C) (hKb:∀(W:World)(l:Nat)(o o':Obj),w.heap.size<=l->W.heap[l]?=some o->o.isCells=false->Kp W (W.putObj l o')) (hb0:Below w0.heap.size w0 w) (hps:∀x,(encs x).size=ps.size)
 (I:List α->World->Prop) (hI:OwnFrom w.heap.size I) (h0:I [] w) (Ax:α->Act->World->Prop) (hAx:∀x a',OwnFrom w.heap.size (fun (_:Unit) W=>Ax x a' W))
 (hassign:∀(l:Nat)(pre:List α)(x:α)(W:World)(K:Act->World->Prop),I pre W->Px x W->(∀a' W',KeepsOthers W W'->Kp W W'->I pre W'->Px x W'->Ax x a' W'->K a' W')->asg.wpIn (F.inRound l) (n-1-1) P (Exit.then K (fun _ _ _=>False)) { tmps:=(ps.zip (encs x)).foldl (fun t (p,v)=>t.setIfInBounds p v) a.tmps,defers:=[] } W)
 (hbody:∀(l:Nat)(pre:List α)(x:α)(a':Act)(W:World),I pre W->Px x W->Ax x a' W->pre.length<N->bo.wpIn (F.inRound l) (n-1-1) P (ownPostK Kp I (fun _ _ _=>False) (pre++[x]) W) a' W)
 (hdone:∀(D:Nat)(xs:List α)(W:World),w.heap.size<=D->S xs->I xs W->W.heap[D]?=some (.deferred (some []))->Q .normal { a with defers:={ target:=.collected D,args:=#[] } :: a.defers } W) :
 (Code.rangeFunc g ps asg bo).wpIn F n P Q a w:=by
 refine wpIn_rangeFunc (fun fn hfn=>?_);rw[hro];have hrun:=run_enterLoop_outer (P:=P) (w:=w) fn a.tmps ps asg bo;generalize hW:(w.alloc (.deferred (some []))).alloc (.loop { state:=.ready,pending:=none,fn,tmps:=a.tmps,params:=ps,assign:=asg,body:=bo,defers:=w.heap.size })=W1 at hrun;have hR1:Yz W1 w.heap.size (ZR fn a.tmps ps asg bo w.heap.size .ready none):=by
  subst hW;refine⟨?_,?_⟩
  ·have:=World.alloc_heap_new (w.alloc (.deferred (some []))) (.loop (ZR fn a.tmps ps asg bo w.heap.size .ready none))
   rwa[World.size_alloc]at this
  ·exact(Below.heap_alloc _ _ _ sP).trans (World.alloc_heap_new w _)
 have hz1:W1.heap.size=w.heap.size+2:=by subst hW;simp
 have hI1:I [] W1:=by subst hW;exact hI.alloc _ (hI.alloc _ h0)
 have hB1:Below w0.heap.size w0 W1:=by
  subst hW;exact hb0.trans ((Xb (Xb (Below.refl w.heap.size w) _) _).mono hb0.size)
 clear hW;refine⟨_,_,W1,{ target:=.fn (.func gf) lb,args:=#[.func (.yield (w.heap.size+1)) #[] #[]] },W1,gf,#[.func (.yield (w.heap.size+1)) #[] #[]]++lb,W1,hrun,?_,?_,?_,fun _=>h1,?_⟩
 ·simp only[resolve,hg]
  simp[go_sem]
 ·intro f' hf'
  simp[Target.leads]at hf';subst hf';exact hFg
 ·simp[invoke,go_sem,eg]
 ·have ow:∀{r:Loop}{A V:World}{row:Option Nat},Yz A w.heap.size r->A.grownBy V row->(∀k,row=some k->W1.heap.size<=k/\∃o:Obj,A.heap[k]?=some o/\o.isCells=false)->Yz V w.heap.size r:=fun h k q=>h.own k (fun z e=>by have:=(q z e).1;omega)
  have fr:∀{A:World}{row:Option Nat},(∀k,row=some k->W1.heap.size<=k/\∃o:Obj,A.heap[k]?=some o/\o.isCells=false)->∀k,row=some k->w.heap.size<=k/\∃o:Obj,A.heap[k]?=some o/\o.isCells=false:=fun q k e=>⟨by have:=(q k e).1;omega,(q k e).2⟩
  refine(hseq (w.heap.size+1) (fun pre W=>I pre W/\Yz W w.heap.size (ZR fn a.tmps ps asg bo w.heap.size .ready none)) W1 hB1 oM
   (fun s A V row hs k q=>⟨hI s A V row hs.1 k (fr q),ow hs.2 k q⟩) ?_ ⟨hI1,hR1⟩).mono ?_
  ·rintro pre x W ⟨hi,hr⟩ hpx hlen
   have hy:(Instr.yield (w.heap.size+1) (encs x)).run P W=_:=run_yield (P:=P) hr.1 (hps x);refine⟨_,_,_,_,hy,roundIn_of_wpIn hfn (hassign _ pre x W _ hi hpx (fun a' W' hko hkp hi' hpx' hax=>?_))⟩;have hr':=hr.keeps hko;refine⟨_,run_beginRound hr'.1 rfl,?_⟩;have hrb:Yz (W'.putObj (w.heap.size+1) (.loop (ZR fn a.tmps ps asg bo w.heap.size .busy none))) w.heap.size (ZR fn a.tmps ps asg bo w.heap.size .busy none):=hr'.put _;have hkb:Kp W (W'.putObj (w.heap.size+1) (.loop (ZR fn a.tmps ps asg bo w.heap.size .busy none))):=hKt hkp (hKb _ _ _ _ oM hr'.1 rfl);refine wpIn_mono (hbody _ pre x a' _ (hI.putObj _ hi' oM hr'.1 rfl) (hPx.putObj _ hpx' oM hr'.1 rfl) ((hAx x a').putObj (s:=()) _ hax oM hr'.1 rfl) hlen) ?_;rintro e a3 V hp;cases e with
   | normal =>
    have hv:=hrb.keeps hp.1;exact⟨_,_,hv.fin none,⟨rfl,⟨hI.putObj _ hp.2.2 oM hv.1 rfl,hv.put _⟩,hKt (hKt hkb hp.2.1) (hKb _ _ _ _ oM hv.1 rfl),(((hko.from _).trans (KeepsFrom.of_grownBy (grownBy_putObj' W' _ _) (fun j e=>by cases e;omega))).trans (hp.1.from _)).trans (KeepsFrom.of_grownBy (grownBy_putObj' V _ _) (fun j e=>by cases e;omega))⟩⟩
   | ret=>exact hp.2.elim
   | exit id=>exact hp.2.elim
   | goto t=>exact hp.2.elim
   | panic ch=>exact hp.elim
   | outgrown=>exact hp.elim
  ·rintro e V ⟨⟨v,rfl⟩,xs,hS,hi,hr⟩
   exact⟨none,_,run_endLoop hr.1 (by simp[ZR]),hdone _ xs _ (Nat.le_refl _) hS (hI.putObj _ hi oM hr.1 rfl) (hr.put _).2⟩
end
section
attribute [local go_sem] Oper.semAt_some
structure Zy(n₀:Nat)(Ms:Nat->Prop)(V V':World):Prop where
 size:V.heap.size<=V'.heap.size
 low:∀k,k<n₀->¬Ms k->V'.heap[k]?=V.heap[k]?
 cells:∀(k:Nat)(o:Obj),¬Ms k->V.heap[k]?=some o->o.isCells=true->V'.heap[k]?=some o
theorem Zy.refl{n₀:Nat}{Ms:Nat->Prop}(V:World):Zy n₀ Ms V V:=⟨Nat.le_refl _,fun _ _ _=>rfl,fun _ _ _ h _=>h⟩
theorem Zy.trans{n₀:Nat}{Ms:Nat->Prop}{A B C:World}(h:Zy n₀ Ms A B)(k:Zy n₀ Ms B C):Zy n₀ Ms A C :=
 ⟨Nat.le_trans h.size k.size,fun i hi hm=>(k.low i hi hm).trans (h.low i hi hm),fun i o hm h1 h2=>k.cells i o hm (h.cells i o hm h1 h2) h2⟩
theorem Zy.putObj{n₀:Nat}{Ms:Nat->Prop}(W:World)(l:Nat)(o o':Obj)(hl:n₀<=l)(h:W.heap[l]?=some o)(ho:o.isCells=false):Zy n₀ Ms W (W.putObj l o'):=by
 have hg:=grownBy_putObj' W l o';refine⟨hg.size,fun k hk _=>?_,fun k o2 _ h1 h2=>?_⟩
 ·exact World.putObj_heap_other oM
 ·exact(World.putObj_heap_other (fun e=>by subst e;rw[h]at h1;injection h1 with h1;subst h1;rw[ho]at h2;cases h2)).trans h1
theorem Zy.of_below{n₀:Nat}{Ms:Nat->Prop}{V V':World}(h:Below V.heap.size V V')(hn:n₀<=V.heap.size):Zy n₀ Ms V V' :=
 ⟨h.size,fun k hk _=>h.block k oM,fun k o _ h1 _=>(h.block k (Array.getElem?_eq_some_iff.1 h1).1).trans h1⟩
theorem YM{V:World}{p:Addr}{v:Value}(h:V.cell? p=some v):∃o:Obj,V.heap[p.block]?=some o/\o.isCells=true:=by
 unfold World.cell? at h;cases ho:V.heap[p.block]? with
 | none=>simp[ho]at h
 | some o=>exact⟨o,rfl,by cases o<;>simp_all[Obj.isCells]⟩
theorem Zy.block{n₀:Nat}{Ms:Nat->Prop}{V V':World}(h:Zy n₀ Ms V V'){p:Addr}{v:Value}(hc:V.cell? p=some v)(hm:¬Ms p.block):V'.heap[p.block]?=V.heap[p.block]?:=by
 obtain⟨o,h1,h2⟩:=YM hc;rw[h1];exact h.cells _ _ hm h1 h2
theorem Zy.cell{n₀:Nat}{Ms:Nat->Prop}{V V':World}(h:Zy n₀ Ms V V'){p:Addr}{v:Value}(hc:V.cell? p=some v)(hm:¬Ms p.block):V'.cell? p=some v :=
 (World.cell?_of_block (h.block hc hm)).trans hc
def ZdU(x:YK):Value:=.agg #[.int .i64 x.op,.int .i64 x.dst,.int .i64 x.a,.int .i64 x.b,.int .i64 x.imm]
def T4(n:Nat)(k:Nat):List (Fin n):=((List.finRange n).reverse).take (n-k)
theorem TJ(n:Nat):T4 n n=[]:=by simp[T4]
theorem Zdn(n k:Nat):(T4 n k).length=n-k:=by simp[T4]
theorem Tf{n q:Nat}(h:q<n):T4 n q=T4 n (q+1)++[⟨q,h⟩]:=by
 unfold T4;have e:n-q=(n-(q+1))+1:=oM;rw[e,List.take_succ_eq_append_getElem (by simp;omega)];congr 1;simp;omega
theorem Wr(F:Fence)(n:Nat)(h6:F.fn 127)(hro:F.round=none)(a:Option Addr)(len cap:Nat)(w:World) :
 CallsIn F n Tryz.prog 127 #[.slice a len cap] w fun e w'=>e=.returned (.func (.func 140) #[] #[.pointer (some ⟨w.heap.size,0,none⟩)])/\w'=w.alloc (.cells #[.slice a len cap] 53):=by
 refine callsIn_of_wp Tryz.func127 rfl h6 ?_ hro;simp only[Tryz.ntmps127,List.size_toArray,List.length_cons,List.length_nil,Nat.reduceAdd,Nat.reduceSub,Array.replicate_succ,Array.replicate_zero,List.push_toArray,List.append_toArray,List.nil_append,List.cons_append]
 gi_wp2
 go_ret
 exact⟨rfl,rfl⟩
end
def Zs(w:World):Prop:=∀j,j<64->w.cell? ⟨1,j,none⟩=some (.int .u8 (Lib.deBruijn64tab.getD j 0))
theorem Zs.of_block{V V':World}(h:Zs V)(e:V'.heap[(1 : Nat)]?=V.heap[(1 : Nat)]?):Zs V':=fun j hj=>(Xc (o:=j) e).trans (h j hj)
theorem Zio(x a:Nat)(hx:x<18446744073709551616)(hx0:x≠0)(hlow:x &&& (18446744073709551616-x)=a) :
 IntKind.u64.wrap (bits BinOp.and IntKind.u64 (x:Int) (IntKind.u64.wrap (-(x:Int)))*285870213051353865) / 288230376151711744=((a*285870213051353865 % 18446744073709551616 / 288230376151711744:Nat):Int):=by
 have e1:IntKind.u64.wrap (-(x:Int))=((18446744073709551616-x:Nat):Int):=by rw[IntKind.wrap_u64];omega
 rw[e1,bits_and_u64_nat x _ hx oM,hlow,IntKind.wrap_u64];omega
theorem Zg0(x k idx:Nat)(w:World)(hx0:((x:Int)==0)=false)
 (key:IntKind.u64.wrap (bits BinOp.and IntKind.u64 (x:Int) (IntKind.u64.wrap (-(x:Int)))*285870213051353865) / 288230376151711744=(idx:Int))
 (hi:idx<64) (hk:k<64) (hcell:w.cell? ⟨1,idx,none⟩=some (.int .u8 k)) :
 Calls Tryz.prog 117 #[.int .u64 x] w fun e w'=>e=.returned (.int .i64 k)/\w'=w:=by
 go_enter Tryz.func117,Tryz.ntmps117
 go_wp2_with (simp only[key])
 go_ret
 exact⟨rfl,rfl⟩
theorem ZhS(x:Nat)(hx:x<18446744073709551616)(hx0:x≠0)(w:World)(hT:Hid (Zs w)) :
 Calls Tryz.prog 117 #[.int .u64 x] w fun e w'=>e=.returned (.int .i64 (Lib.ctz 64 x:Nat))/\w'=w:=by
 obtain⟨hlow,hk⟩:=Lib.lowest_bit 64 x hx0 hx;obtain⟨hi,htab⟩:=Lib.deBruijn64_at _ hk;have hcell:=hT.out _ hi;rw[htab]at hcell;exact Zg0 x _ _ w (by simp;omega) (Zio x _ hx hx0 hlow) hi hk hcell
theorem UX{y:Nat}(h0:y≠0)(h:y<2 ^ 64):∃m,y=2 ^ Lib.ctz 64 y*(2*m+1)/\Lib.ctz 64 y<64:=by
 have e:Lib.ctz 64 y=Lib.ctzFrom 64 y:=by simp[Lib.ctz,h0]
 rw[e];exact Lib.ctzFrom_spec 64 y oM h
theorem Va(c m i:Nat):(2 ^ c*m).testBit i=(decide (c<=i)&&m.testBit (i-c)):=by
 rw[Nat.mul_comm,Nat.testBit_mul_two_pow]
theorem ZgY(m i:Nat):(2*m+1).testBit i=(decide (i=0)||(2*m).testBit i):=by
 cases i with
 | zero=>simp
 | succ i =>
  rw[Nat.testBit_succ,Nat.testBit_succ];have d1:(2*m+1) / 2=m:=oM;have d2:2*m / 2=m:=oM;rw[d1,d2];simp
theorem Zg7{y:Nat}(h0:y≠0)(h:y<2 ^ 64)(i:Nat):(y &&& (y-1)).testBit i=(y.testBit i&&decide (i≠Lib.ctz 64 y)):=by
 obtain⟨m,hm,hc⟩:=UX h0 h;generalize Lib.ctz 64 y=c at *;have hp:0<2 ^ c:=Nat.two_pow_pos c;have e1:y-1=2 ^ c*(2*m)+(2 ^ c-1):=by rw[hm,Nat.mul_add];omega
 rw[Nat.testBit_and,e1,Nat.testBit_two_pow_mul_add _ oM,hm,Va];by_cases hi:i<c
 ·have:¬c<=i:=oM
  simp[this]
 ·have h1:c<=i:=oM
  simp only[hi,h1,decide_true,Bool.true_and,if_false];rw[ZgY];by_cases e:i=c
  ·subst e;simp
  ·have:¬i-c=0:=oM
   simp[this,e]
theorem ZhQ{y:Nat}(h0:y≠0)(h:y<2 ^ 64):y.testBit (Lib.ctz 64 y)=true/\∀i,i<Lib.ctz 64 y->y.testBit i=false:=by
 obtain⟨m,hm,hc⟩:=UX h0 h;generalize Lib.ctz 64 y=c at *;rw[hm];refine⟨?_,fun i hi=>?_⟩
 ·rw[Va];simp
 ·rw[Va]
  have:¬c<=i:=oM;simp[this]
def lsN(W:Nat->Nat)(p:Nat):List Nat:=(List.range p).filter (Xf W)
theorem Zab{W:Nat->Nat}{p q:Nat}(hpq:p<=q)(h:∀i,p<=i->i<q->Xf W i=false):lsN W q=lsN W p:=by
 unfold lsN;obtain⟨d,rfl⟩:∃d,q=p+d:=⟨q-p,oM⟩;rw[List.range_add,List.filter_append];have:((List.range d).map (p + ·)).filter (Xf W)=[]:=by
  rw[List.filter_eq_nil_iff];intro x hx;obtain⟨j,hj,rfl⟩:=List.mem_map.1 hx;rw[h (p+j) oM (by have:=List.mem_range.1 hj;omega)];simp
 rw[this,List.append_nil]
theorem Zg1{W:Nat->Nat}{p q:Nat}(hpq:p<=q)(h:∀i,p<=i->i<q->Xf W i=false)(hq:Xf W q=true):lsN W (q+1)=lsN W p++[q]:=by
 rw[<-Zab hpq h];unfold lsN;rw[List.range_succ,List.filter_append];simp[hq]
section
attribute [local go_sem] Oper.semAt_some
theorem ZiM{W:Nat->Nat}(h:Xw W)(i:Nat):W i<18446744073709551616:=h i
theorem Zcc(W:Nat->Nat)(i j:Nat)(hj:j<64):Xf W (64*i+j)=(W i).testBit j:=by
 unfold Xf;rw[show(64*i+j) / 64=i by omega,show(64*i+j) % 64=j by omega]
structure Zaa(W:Nat->Nat)(i k y:Nat):Prop where
 le:k<=64
 lt:y<18446744073709551616
 bit:∀j,y.testBit j=((W i).testBit j&&decide (k<=j))
theorem Zaa.start{W:Nat->Nat}(h:Xw W)(i:Nat):Zaa W i 0 (W i):=⟨vZ,ZiM h i,fun j=>sP⟩
theorem Zaa.next{W:Nat->Nat}{i k y:Nat}(h:Zaa W i k y)(h0:y≠0):Zaa W i (Lib.ctz 64 y+1) (y &&& (y-1))/\lsN W (64*i+(Lib.ctz 64 y+1))=lsN W (64*i+k)++[64*i+Lib.ctz 64 y]/\Lib.ctz 64 y<64/\(y &&& (y-1))<y:=by
 have hy:y<2 ^ 64:=h.lt;obtain⟨m,hm,hc⟩:=UX h0 hy;have hon:=ZhQ h0 hy;have hoff:=Zg7 h0 hy;have hb:=h.bit;have hle:y &&& (y-1)<=y-1:=Nat.and_le_right;generalize Lib.ctz 64 y=c at *;have hk:k<=c/\(W i).testBit c=true:=by
  have h1:=hon.1;rw[hb,Bool.and_eq_true,decide_eq_true_eq]at h1;exact⟨h1.2,h1.1⟩
 refine⟨⟨oM,oM,fun j=>?_⟩,?_,hc,oM⟩
 ·rw[hoff,hb]
  by_cases e:j=c
  ·subst e;simp
  ·by_cases e2:j<c
   ·have h2:=hon.2 j e2
    rw[hb]at h2;rw[h2];have:¬c+1<=j:=oM;simp[this]
   ·have h3:k<=j:=oM
    have h4:c+1<=j:=oM;simp[e,h3,h4]
 ·have e:64*i+(c+1)=(64*i+c)+1:=oM
  rw[e];refine Zg1 oM (fun q h1 h2=>?_) (by rw[Zcc W i c hc];exact hk.2);obtain⟨j,rfl⟩:∃j,q=64*i+j:=⟨q-64*i,oM⟩;have h5:=hon.2 j oM;rw[hb]at h5;rw[Zcc W i j oM];have h6:k<=j:=oM;simpa [h6]using h5
theorem Zaa.done{W:Nat->Nat}{i k:Nat}(h:Zaa W i k 0):lsN W (64*(i+1))=lsN W (64*i+k):=by
 refine Zab (by have:=h.le;omega) (fun q h1 h2=>?_);obtain⟨j,rfl⟩:∃j,q=64*i+j:=⟨q-64*i,oM⟩;rw[Zcc W i j oM];have h5:=h.bit j;have h6:k<=j:=oM;simpa [h6]using h5.symm
theorem ZhY{W:Nat->Nat}{p q:Nat}(h:p<=q):(lsN W p).length<=(lsN W q).length:=by
 unfold lsN;obtain⟨d,rfl⟩:∃d,q=p+d:=⟨q-p,oM⟩;rw[List.range_add,List.filter_append,List.length_append];omega
theorem Zid(n:Nat)(a:Option Addr)(len cap:Nat)(w:World) :
 CallsIn Fence.wide n Tryz.prog 68 #[.agg #[.slice a len cap]] w fun e w'=>e=.returned (.func (.func 116) #[] #[.pointer (some ⟨w.heap.size,0,none⟩)])/\w'=w.alloc (.cells #[.slice a len cap] 75):=by
 refine callsIn_of_wp Tryz.func68 rfl trivial ?_ rfl;simp only[Tryz.ntmps68,List.size_toArray,List.length_cons,List.length_nil,Nat.reduceAdd,Nat.reduceSub,Array.replicate_succ,Array.replicate_zero,List.push_toArray,List.append_toArray,List.nil_append,List.cons_append]
 gi_wp2
 go_ret
 exact⟨rfl,rfl⟩
end
section
attribute [local go_sem] Oper.semAt_some
theorem WM{W:Nat->Nat}{p x:Nat}:x∈lsN W p↔x<p/\Xf W x=true:=by
 unfold lsN;rw[List.mem_filter,List.mem_range]
theorem ZfX{W:Nat->Nat}{p q x:Nat}(h:p<=q)(hx:x∈lsN W p):x∈lsN W q:=by
 have:=WM.1 hx;exact WM.2 ⟨oM,this.2⟩
theorem ZeY(Bs g Kw C:Nat)(W:Nat->Nat)(Ms:Nat->Prop)(w:World)(hs:w.cell? ⟨Bs,0,none⟩=some (.slice (some ⟨g,0,none⟩) Kw C))(hg:Hid (WsAt w g Kw C W))(hwd:Hid (Xw W))(hT:Hid (Zs w))(hK:Kw<=100)(hM2:Hid (¬Ms g))(hM3:Hid (¬Ms 1)) :
 Zgw Fence.wide 7 Tryz.prog 116 #[.pointer (some ⟨Bs,0,none⟩)] (fun x:Nat=>#[.int .i64 (x:Int)]) (fun x _=>x∈lsN W (64*Kw)) (Zy w.heap.size Ms) (fun xs=>xs=lsN W (64*Kw)) (lsN W (64*Kw)).length w:=by
 intro l J W0 hW hl hJ hY h0;have HY:=Xa hY;have HJ:=Xa hJ;have H0:=Xa h0;clear hY hJ h0;have hBs:Bs<w.heap.size:=World.block_lt_of_cell? w _ hs;have hs0:=(hW.cell (p:=⟨Bs,0,none⟩) hBs).trans hs;have HG0:Hid (WsAt W0 g Kw C W):=Xa (hg.of_block (hW.block g hg.lt));have hgt:(1 : Nat)<w.heap.size:=World.block_lt_of_cell? w _ (hT.out 0 vZ);have HT0:Hid (Zs W0):=Xa (hT.of_block (hW.block _ hgt));refine callsIn_of_wp Tryz.func116 rfl trivial ?_ rfl;simp only[Tryz.ntmps116,List.size_toArray,List.length_cons,List.length_nil,Nat.reduceAdd,Nat.reduceSub,Array.replicate_succ,Array.replicate_zero,List.push_toArray,List.append_toArray,List.nil_append,List.cons_append]
 gi_wp2
 gi_loopw [8] (fun i wr=>∃k:Nat,k<=Kw/\i=.int .i64 k/\Hid (J (lsN W (64*k)) wr)/\Zy w.heap.size Ms W0 wr) (fun i _=>Kw-(intOf i).toNat)
 case atStart=>exact⟨0,Nat.zero_le _,rfl,Xa (by rw[Nat.mul_zero];exact H0.out),Zy.refl _⟩
 case round =>
  obtain⟨k,hk,rfl,HJk,hkp⟩:=hrel;by_cases hlt:k<Kw
  ·have hcw:=hkp.cell (HG0.cell hlt) hM2.out
   have HWO:=Xa (Zaa.start hwd.out k);have hwk:=hwd.out k;generalize hyk:W k=yk at hcw HWO hwk;clear hyk;generalize wr=wo at *;have hmul:IntKind.i64.wrap ((k:Int)*64)=(k:Int)*64:=by rw[IntKind.wrap_i64];omega
   have HKO:=Xa hkp;clear hkp
   gi_wp2
   clear hcw
   gi_loopw [4] (fun y wr=>∃yy p:Nat,y=.int .u64 yy/\Hid (Zaa W k p yy)/\Hid (J (lsN W (64*k+p)) wr)/\Hid (Zy w.heap.size Ms W0 wr)) (fun y _=>(intOf y).toNat)
   case atStart=>exact⟨yk,0,rfl,HWO,HJk,HKO⟩
   case round =>
    clear HWO HJk HKO;obtain⟨yy,p,rfl,HWO,HJk,HKO⟩:=hrel;have hyl:=HWO.lt;by_cases h0:yy=0
    ·subst h0
     gi_wp2
     exact⟨⟨k+1,oM,gM,Xa (by rw[HWO.done];exact HJk.out),HKO.out⟩,by simp[intOf];omega⟩
    ·obtain⟨n1,n2,n3,n4⟩:=HWO.next h0
     have HN1:=Xa n1;have HN2:=Xa n2;have hy0:((yy:Int)==0)=false:=by simp;omega
     have hs1:IntKind.u64.wrap ((yy:Int)-1)=((yy-1:Nat):Int):=by rw[IntKind.wrap_u64];omega
     have hs2:=bits_and_u64_nat yy (yy-1) hyl oM;have HTZ:=Xa (ZhS yy hyl h0 wr (Xa (HT0.of_block (HKO.low _ oM hM3.out))));have hlen:(lsN W (64*k+p)).length<(lsN W (64*Kw)).length:=by
      have h1:=congrArg List.length n2;have h2:=ZhY (W:=W) (p:=64*k+(Lib.ctz 64 yy+1)) (q:=64*Kw) oM;rw[List.length_append]at h1;simp at h1;omega
     have hmem:64*k+Lib.ctz 64 yy∈lsN W (64*Kw):=ZfX (q:=64*Kw) (p:=64*k+(Lib.ctz 64 yy+1)) oM (by rw[n2];simp);obtain⟨fn,tmps,asg,bo,hy,hR⟩:=HY.out _ (64*k+Lib.ctz 64 yy) wr HJk.out hmem hlen;generalize Lib.ctz 64 yy=cc at *;generalize yy &&& (yy-1)=yn at *;have hadd:IntKind.i64.wrap ((k:Int)*64+(cc:Int))=(k:Int)*64+(cc:Int):=by rw[IntKind.wrap_i64];omega
     have he:(((64*k+cc:Nat)):Int)=(k:Int)*64+(cc:Int):=oM;rw[he]at hy;clear n1 n2 he hlen hmem
     gi_wp2
     refine⟨trivial,(callsIn_wide.2 HTZ.out).mono ?_⟩;rintro e w1 ⟨rfl,hw1⟩;subst hw1
     gi_wp2
     refine hR.mono ?_;rintro e W3 ⟨rfl,hJ3,hk3,_⟩;have HJ3:=Xa hJ3;have HK3:=Xa (HKO.trans hk3);clear hJ3 hk3 hR hy HTZ HY
     gi_wp2
     exact⟨⟨yn,cc+1,rfl,HN1,Xa (by rw[HN2.out];exact HJ3.out),HK3⟩,by simp[intOf];omega⟩
  ·have hke:k=Kw:=oM
   gi_wp2
   go_end0
   exact⟨⟨_,rfl⟩,_,rfl,by rw[<-hke];exact HJk.out⟩
def Vf(W:World)(D:Nat)(r:Loop):Prop:=W.heap[D]?=some (.loop r)
theorem Vf.put{W:World}{D:Nat}{r:Loop}(h:Vf W D r)(r':Loop):Vf (W.putObj D (.loop r')) D r':=World.putObj_heap_same (Array.getElem?_eq_some_iff.1 h).1
theorem Vf.own{W V:World}{D:Nat}{r:Loop}{row:Option Nat}(h:Vf W D r)(g:W.grownBy V row)(hr:∀k,row=some k->D+1<=k):Vf V D r :=
 (g.block _ (Array.getElem?_eq_some_iff.1 h).1 (fun e=>by have:=hr _ e.symm;omega)).trans h
theorem Vf.keeps{W V:World}{D:Nat}{r:Loop}(h:Vf W D r)(k:KeepsOthers W V):Vf V D r:=k.same _ _ h rfl
theorem Vf.fin{P:Program}{W:World}{D q:Nat}{fn:FuncId}{tm:Array Value}{ps:Array Tmp}{asg bo:Code}(h:Vf W D (ZR fn tm ps asg bo q .busy none))(j:Option Code):(Instr.endRound D j).run P W=.ok (.bool j.isNone) (W.putObj D (.loop (ZR fn tm ps asg bo q (if j.isNone then .ready else .done) j))):=run_endRound j h
end
theorem We{A B:List Nat}(hA:A.Nodup)(h:∀x∈A,x∈B):A.length<=B.length:=by
 induction A generalizing B with
 | nil=>exact Nat.zero_le _
 | cons a A ih =>
  have h1:=List.nodup_cons.1 hA;have h2:∀x∈A,x∈B.erase a:=fun x hx=>(List.mem_erase_of_ne (fun e=>h1.1 (by rw[<-e];exact hx))).2 (h x (List.mem_cons_of_mem _ hx))
  have h3:=ih h1.2 h2;have ha:=h a List.mem_cons_self;rw[List.length_erase_of_mem ha]at h3;have:=List.length_pos_of_mem ha;simp only[List.length_cons];omega
end Go.Proofs.YthgikffcdgpgiaaGreatDoor
