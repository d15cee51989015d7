import Derived.RangeFuncNested
import Derived.RangeFuncBound
import Derived.RangeFuncCalls
import Derived.RangeFuncLeaves
import Derived.Test.YtnggdhnpjfigjaaGreatDoorPure
import Derived.Shelf.Abstract
import Derived.Shelf.RegionOpen
import Derived.OwnWalkIn
import Derived.TacticsInMore
import Derived.LoopNIn
import Derived.LoopIn
import Derived.OrdersIn
import Derived.OrdersHeld
import Derived.OwnWalk
import Derived.Lib.ItoaMem
import Derived.Lib.UnsafeStr
import Derived.Laws.OwnMore
import Derived.Lib.AppendZerosOnto
import Derived.Lib.Walk
import Derived.Lib.SliceRun
import Derived.ProofKit
import Derived.Lib.SmallJoins
namespace Go.Proofs.YtnggdhnpjfigjaaGreatDoor
set_option maxHeartbeats 2000000
set_option maxRecDepth 100000
open _root_ renaming Array.size->Z,List.length->J,Nat->N,rfl->R,Option.some->S,Option.none->U,Bool.true->So,Bool.false->Sn,absurd->Sz,Int->I,List.range->Rg
open Go renaming World.alloc->D,Ending.returned->Rt,RowKit.Below->Sw,World.cell?->E,IntKind.i64->S6,Obj.cells->Sc,undef->Su,World.ownsRow->Sx,Calls->Sk,World.setCell->Se
open Value renaming bool->Sb,slice->X,int->Si,agg->Sa,pointer->Sj,string->Sg,tuple->St
open Go.RowKit Go.Shelf Go.Proofs.Tryz
variable{t T z:I}{n m k B g i j c:N}{w v u:Ub}{a A_:Uj}{p P:Uy}{M N_:Vp}{d:Vv}{s:Wa}{l L:Wc}{x:Wi}{f F:Wk}{y:Wo}{q:Xe}{R_:Yh}{D_:Yr}
section
variable {F: Fence} {n: N} {P: Yh} {α: Type}
def pp(F:Fence)(n:N)(P:Yh)(h:N)(i:Zh)(g:α->Zh)(f:α->Vy)(d:Ub->Vy)(k:List α->Prop)(m:N)(w:Ub):Prop :=
 ∀(l:N)(j:List α->Vy)(W:Ub),Sw (Z w.1) w W->l<Z W.1->OwnFrom (Z W.1) j ->
  (∀b x V,j b V->f x V->J b<m->YieldAt F (n-1) P l (g x) V λe a=>e=Rt (Sb So)/\j (b++[x]) a/\d V a/\KeepsFrom (Z W.1) V a) ->
  j [] W->CallsIn F n P h (#[.func (.yield l) #[] #[]]++i) W λe V=>(∃v,e=Rt v)/\∃c,k c/\j c V
def KR(fn:FuncId)(f:Zh)(d:Array Tmp)(a b:Code)(g:N)(e:LoopState)(c:Option Code):Loop:={ state:=e,pending:=c,fn,tmps:=f,params:=d,assign:=a,body:=b,defers:=g }
def Ze(W:Ub)(a:N)(r:Loop):Prop:=W.1[a+1]?=S (.loop r)/\W.1[a]?=S (.deferred (S []))
theorem Ze.put{W:Ub}{b:N}{r:Loop}(h:Ze W b r)(a:Loop):Ze (W.putObj (b+1) (.loop a)) b a :=
 ⟨World.putObj_heap_same (aS.1 h.1).1,G (World.putObj_heap_other O) h.2⟩
theorem Ze.own{W V:Ub}{b:N}{r:Loop}{row:Zm}(h:Ze W b r)(g:W.grownBy V row)(a:∀k,row=S k->b+2<=k):Ze V b r :=
 ⟨G (g.5 _ (aS.1 h.1).1 λe=>by have:=a _ e.symm;omega) h.1,G (g.5 _ (aS.1 h.2).1 λe=>by have:=a _ e.symm;omega) h.2⟩
theorem Ze.keeps{W V:Ub}{a:N}{r:Loop}(h:Ze W a r)(k:KeepsOthers W V):Ze V a r:=⟨k.2 _ _ h.1 R,k.2 _ _ h.2 R⟩
theorem Ze.fin{W:Ub}{f:N}{c:FuncId}{e:Zh}{d:Array Tmp}{a b:Code}(h:Ze W f (KR c e d a b f .busy U))(j:Option Code):(Instr.endRound (f+1) j).run P W=.ok (Sb j.isNone) (W.putObj (f+1) (.loop (KR c e d a b f (if j.isNone then .ready else .done) j))):=run_endRound j h.1
theorem wj{M_:Operand}{c:Array Tmp}{h i:Code}{Q_:Yt}{a:Act}{w:Ub}(bb:F.4=U)(h1:1<=n){gf:N}{lb:Zh}(hg:a.eval M_=.func (.func gf) #[] lb)(aj:F.1 gf)(eg:∀args w,(callFunc gf args).run P w=.ok (.enter gf args) w){L:α->Zh}{u:α->Vy}{l:Ub->Vy}{S_:List α->Prop}{N_:N}{y:Ub}(bc:pp F (n-1) P gf lb L u l S_ N_ y)(ao:OwnFrom (Z w.1) u)(M:∀{p J_ K_:Ub},l p J_->l J_ K_->l p K_)(O_:∀(W:Ub)(m:N)(o o':Obj),Z w.1<=m->W.1[m]?=S o->o.isCells=Sn->l W (W.putObj m o'))(R_:Sw (Z y.1) y w)(a7:∀x,Z (L x)=Z c)(K:List α->Vy)(r:OwnFrom (Z w.1) K)(h0:K [] w)(C:α->Tf)(ad:∀x g,OwnFrom (Z w.1) λ(_:Unit) W=>C x g W)(aq:∀(m:N)(b:List α)(x:α)(W:Ub)(L_:Tf),K b W->u x W->(∀g d,KeepsOthers W d->l W d->K b d->u x d->C x g d->L_ g d)->h.wpIn (F.inRound m) (n-1-1) P (Exit.then L_ λ_ _ _=>False) { tmps:=(c.zip<|L x).foldl (λaa (p_,ab)=>aa.setIfInBounds p_ ab) a.1,defers:=[] } W)(az:∀(m:N)(b:List α)(x:α)(g:Act)(W:Ub),K b W->u x W->C x g W->J b<N_->i.wpIn (F.inRound m) (n-1-1) P (ownPostK l K (λ_ _ _=>False) (b++[x]) W) g W)(a0:∀(T:N)(B:List α)(W:Ub),Z w.1<=T->S_ B->K B W->W.1[T]?=S (.deferred (S []))->Q_ .normal { a with defers:={ target:=.collected T,args:=#[] }:: a.2 } W):
 (Code.rangeFunc M_ c h i).wpIn F n P Q_ a w:=by
 refine wpIn_rangeFunc λfn a1=>?_;rw[bb];have X_:=run_enterLoop_outer (P:=P) (w:=w) fn a.1 c h i;generalize v:D (D w<|.deferred (S [])) (.loop { state:=.ready,pending:=U,fn,tmps:=a.1,params:=c,assign:=h,body:=i,defers:=Z w.1 })=f at X_;have ap:Ze f (Z w.1) (KR fn a.1 c h i (Z w.1) .ready U):=by
  subst v;refine⟨?_,?_⟩
  .have:=World.alloc_heap_new (D w<|.deferred (S [])) (.loop (KR fn a.1 c h i (Z w.1) .ready U));rwa[aO]at this
  exact G (Below.heap_alloc _ _ _ sP) (World.alloc_heap_new w _)
 have bh:Z f.1=Z w.1+2:=by subst v;simp
 have al:K [] f:=by subst v;exact r.alloc _<|r.alloc _ h0
 have af:Sw (Z y.1) y f:=by
  subst v;exact R_.trans<|(Xb (Xb (Below.refl (Z w.1) w) _) _).mono R_.4
 refine⟨_,_,f,{ target:=.fn (.func gf) lb,args:=#[.func (.yield (Z w.1+1)) #[] #[]] },f,gf,#[.func (.yield (Z w.1+1)) #[] #[]]++lb,f,X_,?_,?_,?_,λ_=>h1,?_⟩
 .simp only[resolve,hg];simp[go_sem]
 .intro f' T_;simp[Target.leads]at T_;subst T_;exact aj
 .simp[invoke,go_sem,eg]
 have ow:∀{Z_:Loop}{p V:Ub}{row:Zm},Ze p (Z w.1) Z_->p.grownBy V row->(∀k,row=S k->Z f.1<=k/\∃o:Obj,p.1[k]?=S o/\o.isCells=Sn)->Ze V (Z w.1) Z_:=λac k q=>ac.own k (λbf e=>by have:=(q bf e).1;omega);have fr:∀{p:Ub}{row:Zm},(∀k,row=S k->Z f.1<=k/\∃o:Obj,p.1[k]?=S o/\o.isCells=Sn)->∀k,row=S k->Z w.1<=k/\∃o:Obj,p.1[k]?=S o/\o.isCells=Sn:=λq k e=>⟨oN<|(q k e).1,(q k e).2⟩
 refine(bc (Z w.1+1) (λb W=>K b W/\Ze W (Z w.1) (KR fn a.1 c h i (Z w.1) .ready U)) f af O
  (λbe p V row Y_ k q=>⟨r be p V row Y_.1 k<|fr q,ow Y_.2 k q⟩) ?_ ⟨al,ap⟩).mono ?_
 .rintro b x W⟨H_,s⟩ a8 a6;have hy:=run_yield (P:=P) s.1 (a7 x);refine⟨_,_,_,_,hy,roundIn_of_wpIn a1<|aq _ b x W _ H_ a8 λg d U_ a5 a2 a9 ar=>?_⟩;have t:=s.keeps U_;refine⟨_,run_beginRound t.1 R,?_⟩;have ba:Ze (d.putObj (Z w.1+1) (.loop (KR fn a.1 c h i (Z w.1) .busy U))) (Z w.1) (KR fn a.1 c h i (Z w.1) .busy U):=t.put _;have a4:l W (d.putObj (Z w.1+1) (.loop (KR fn a.1 c h i (Z w.1) .busy U))):=M a5<|O_ _ _ _ _ O t.1 R;refine wpIn_mono (az _ b x g _ (r.putObj _ a2 O t.1 R) (ao.putObj _ a9 O t.1 R) ((ad x g).putObj (s:=()) _ ar O t.1 R) a6) ?_;rintro e a3 V j;cases e with
  |normal=>
   have z:=ba.keeps j.1;exact⟨_,_,z.fin U,⟨R,⟨r.putObj _ j.2.2 O z.1 R,z.put _⟩,M (M a4 j.2.1) (O_ _ _ _ _ O z.1 R),(((U_.from _).trans (KeepsFrom.of_grownBy (grownBy_putObj' d _ _) λbd e=>by cases e;omega)).trans (j.1.from _)).trans (KeepsFrom.of_grownBy (grownBy_putObj' V _ _) λbd e=>by cases e;omega)⟩⟩
  |ret=>exact j.2.elim
  |exit id=>exact j.2.elim
  |goto aa=>exact j.2.elim
  |panic ch=>exact j.elim
  |outgrown=>exact j.elim
 rintro e V⟨⟨ab,rfl⟩,B,hS,H_,s⟩;exact⟨U,_,run_endLoop s.1 (by simp[KR]),a0 _ B _ aA hS (r.putObj _ H_ O s.1 R) (s.put _).2⟩
end
section
attribute [local go_sem] Oper.semAt_some
structure Zf(n₀:N)(Ms:Vv)(V V':Ub):Prop where
 size:Z V.1<=Z V'.1
 low:∀k,k<n₀->¬Ms k->V'.1[k]?=V.1[k]?
 cells:∀(k:N)(o:Obj),¬Ms k->V.1[k]?=S o->o.isCells=So->V'.1[k]?=S o
theorem Zf.refl(V:Ub):Zf n d V V:=⟨aA,λ_ _ _=>R,λ_ _ _ h _=>h⟩
theorem Zf.trans(h:Zf n d w v)(k:Zf n d v u):Zf n d w u :=
 ⟨aJ h.1 k.1,λi c a=>G (k.2 i c a) (h.2 i c a),λi o a e b=>k.3 i o a (h.3 i o a e b) b⟩
theorem Zf.putObj(W:Ub)(l:N)(o c:Obj)(j:n<=l)(h:W.1[l]?=S o)(g:o.isCells=Sn):Zf n d W (W.putObj l c):=by
 have f:=grownBy_putObj' W l c;refine⟨f.4,λk i _=>?_,λk m _ a b=>?_⟩;·exact World.putObj_heap_other O
 exact G (World.putObj_heap_other λe=>by subst e;rw[h]at a;injection a with a;subst a;rw[g]at b;cases b) a
theorem Zf.of_below(h:Sw (Z w.1) w v)(c:n<=Z w.1):Zf n d w v :=
 ⟨h.4,λk b _=>h.5 k O,λk o _ a _=>G (h.5 k (aS.1 a).1) a⟩
theorem Yn{p:Addr}(h:E w p=S a):∃o:Obj,w.1[p.1]?=S o/\o.isCells=So:=by
 unfold World.cell? at h;cases ho:w.1[p.1]? with
 |none=>simp[ho]at h
 |some o=>exact⟨o,R,by cases o<;>simp_all[Obj.isCells]⟩
theorem Zf.block(h:Zf n d w v){p:Addr}(e:E w p=S a)(f:¬d p.1):v.1[p.1]?=w.1[p.1]?:=by
 let⟨o,b,c⟩:=Yn e;rw[b];exact h.3 _ _ f b c
theorem Zf.cell(h:Zf n d w v){p:Addr}(b:E w p=S a)(c:¬d p.1):E v p=S a :=
 G (bZ<|h.block b c) b
def mj(x:Yg):Uj:=Sa #[Si S6 x.1,Si S6 x.2,Si S6 x.a,Si S6 x.b,Si S6 x.5]
def Us(n:N)(k:N):List (Fin n):=((List.finRange n).reverse).take (n-k)
theorem Ua:Us n n=[]:=by simp[Us]
theorem Vf:J (Us n m)=n-m:=by simp[Us]
theorem TJ(h:m<n):Us n m=Us n (m+1)++[⟨m,h⟩]:=by
 unfold Us;have e:n-m=(n-(m+1))+1:=O;rw[e,bN<|by simp;omega];congr 1;simp;omega
theorem V6(F:Fence)(n:N)(c:F.1 162)(d:F.4=U)(a:Uy)(len b:N)(w:Ub):
 CallsIn F n prog 162 #[X a len b] w λe f=>e=Rt (.func (.func 192) #[] #[Sj (S ⟨Z w.1,0,U⟩)])/\f=D w (Sc #[X a len b] 52):=by
 refine iD func162 R c ?_ d;simp only[ntmps162,xY,Nat.reduceAdd,Nat.reduceSub];gi_wp2;go_ret;exact⟨R,R⟩
end
section
section
variable {F: Fence} {n: N} {P: Yh} {ops: Array Oper} {Q_: Exit -> Act -> Ub -> Prop} {md: Region.Mode} {S_: Ub -> Prop}
def WQ(ops:Array Oper):Bool:=ops.1.all λo=>match o.2 with|.defer _=>Sn|_=>So
theorem KN(h:WQ ops=So){j:N}{o:Oper}(hj:ops[j]?=S o):∀c,o.2≠.defer c:=λc e=>by
 have hm:o∈ops.1:=by
  obtain⟨hlt,rfl⟩:=aS.1 hj;simp
 have:=dV.1 h o hm;rw[e]at this;cases this
def YG(P:Yh)(ops:Array Oper)(S_:Vy)(o:Oper)(v:Uj)(a:Act):Prop:=YieldsIf P ops S_ o v a/\∀w,o.about P w a.eval=U
theorem YG.wpOpIn{i:N}{o:Oper}{v:Uj}{a:Act}(hd:∀c,o.2≠.defer c)(hi:ops[i]?=S o)(hy:YG P ops S_ o v a){K:Tf}{w:Ub}(hS:S_ w)(h:K (a.put o.1 v) w):wpOpIn F n P ops Q_ i K a w:=by
 unfold Go.wpOpIn;simp only[hi];have hab:∀f,o.about P w a.eval=S f->F.1 f:=λf hf=>by rw[hy.2 w]at hf;cases hf
 obtain⟨hw,hv⟩|⟨hw,rfl⟩:=hy.1;·simp only[hw,gG,Oper.wpIn,Oper.semAt_plain F a.eval o hd,hv w hS,Oper.uponIn];exact⟨hab,h⟩
 simp only[hw,Bool.false_eq_true,fD];exact⟨hab,h⟩
theorem YG.of_same{o:Oper}{v:Uj}{a a':Act}(hy:YG P ops S_ o v a)(he:execOp a'.eval o=execOp a.eval o)(hw:Region.wanted o (yielded ops a'.1)=Region.wanted o (yielded ops a.1))(hb:∀w,o.about P w a'.eval=o.about P w a.eval):YG P ops S_ o v a' :=
 ⟨hy.1.of_same he hw,λw=>(hb w)▸hy.2 w⟩
theorem AR{j:N}{oi oj:Oper}{v:Uj}(hdj:∀c,oj.2≠.defer c)(hj:ops[j]?=S oj)(hap:oi.apart ops oj=So)(hsi:∀cs b,oi.2≠.select cs b)(hsj:∀cs b,oj.2≠.select cs b)(hQ:∀c a w,Q_ (.panic c) (a.put oi.1 v) w->Q_ (.panic c) a w){K:Tf}{a:Act}{w:Ub}(hy:YG P ops S_ oi v a)(h:wpOpIn F n P ops Q_ j K (a.put oi.1 v) w):
 wpOpIn F n P ops Q_ j (λa' w'=>YG P ops S_ oi v a'/\K (a'.put oi.1 v) w') a w:=by
 let⟨h1,h2,h3⟩:=Oper.apart_spec hap;have keep:∀(a:Act),YG P ops S_ oi v a->∀u,YG P ops S_ oi v (a.put oj.1 u):=λa hy u=>
  hy.of_same (execOp_put oi hsi a oj.1 u h3) (wanted_put oi a oj.1 u h3) λw=>about_put oi w a oj.1 u h3
 have keepD:∀d,YG P ops S_ oi v { a with defers:=d::a.2 }:=λd=>hy.of_same R R λ_=>R;unfold wpOpIn at*;simp only[hj]at*;rw[wanted_put oj a oi.1 v h1,about_put oj w a oi.1 v h1]at h;split
 .rename_i hw;simp only[hw,gG]at h;unfold Oper.wpIn at*;rw[about_put oj w a oi.1 v h1]at h;refine⟨h.1,?_⟩;have h:=h.2;rw[Oper.semAt_plain F _ oj hdj,execOp_put oj hsj a oi.1 v h1]at h;rw[Oper.semAt_plain F _ oj hdj];generalize (execOp a.eval oj).run P w=r at*;cases r with
  |ok x w'=>
   cases x<;>simp only[Oper.uponIn]at h |-
   case value u=>exact⟨keep a hy u,(jP a v u h2)▸h⟩
   case skip=>exact⟨keep a hy _,(jP a v Su h2)▸h⟩
   case defer d=>
    refine⟨keep _ (keepD d) _,?_⟩;rw[<-jP _ v Su h2,<-Act.put_defers];exact h
   case enter f args=>
    refine⟨h.1,CallsIn.mono h.2 λe w'' he=>?_⟩;cases e with
    |returned u=>exact⟨keep a hy u,(jP a v u h2)▸he⟩
    |panicked c=>exact hQ _ _ _ he
    |outgrown=>exact he
   case row row args=>exact⟨h.1,RowsIn.mono h.2 λu w'' he=>⟨keep a hy u,(jP a v u h2)▸he⟩⟩
   case round l f tmps assign body=>
    refine⟨h.1,RoundIn.mono h.2 λe w'' he=>?_⟩;cases e with
    |returned u=>exact⟨keep a hy u,(jP a v u h2)▸he⟩
    |panicked c=>exact hQ _ _ _ he
    |outgrown=>exact he
  |halt x w'=>
   cases x<;>simp only[Oper.uponIn]at h |-
   case panic u=>exact hQ _ _ _ h
 rename_i hw;simp only[hw]at h;exact⟨h.1,keep a hy _,(jP a v Su h2)▸h.2⟩
def Y9(F:Fence)(n:N)(P:Program)(md:Region.Mode)(ops:Array Oper)(Q_:Exit->Act->World->Prop)(S_:World->Prop):N->Array Bool->Act->World->Prop
 |0,listed,a,w=>Region.ready md ops listed=[]/\Q_ .normal a w
 |fuel+1,listed,a,w=>
  (Region.ready md ops listed=[]->Q_ .normal a w) /\
  ∀i∈Region.ready md ops listed,wpOpIn F n P ops Q_ i (λa' w'=>S_ w'/\Y9 F n P md ops Q_ S_ fuel (listed.setIfInBounds i So) a' w') a w
theorem K6:∀(fuel:N)(listed:Zz)(a:Act)(w:Ub),Y9 F n P md ops Q_ S_ fuel listed a w->wpAnyIn F n P md ops Q_ fuel listed a w
 |0,_,_,_,h=>h
 |fuel+1,_,_,_,h=>⟨h.1,λi hi=>wpOpIn_mono (λa' w' h'=>K6 fuel _ a' w' h'.2) (h.2 i hi)⟩
theorem AE{i:N}{oi:Oper}{v:Uj}(hnd:WQ ops=So)(hi:ops[i]?=S oi)(hsel:∀(j:N)(o:Oper) cs b,ops[j]?=S o->o.2≠.select cs b)(hQ:∀c a w,Q_ (.panic c) (a.put oi.1 v) w->Q_ (.panic c) a w):
 ∀(fuel:N)(listed:Zz)(a:Act)(w:Ub),
  (∀j oj,ops[j]?=S oj->j≠i->listed.getD j So=Sn->(∀e∈oj.5,Region.binds md e=So->e.1≠i)->oi.apart ops oj=So) ->
  i∈Region.ready md ops listed->YG P ops S_ oi v a->S_ w ->
  Y9 F n P md ops Q_ S_ fuel (listed.setIfInBounds i So) (a.put oi.1 v) w->Y9 F n P md ops Q_ S_ (fuel+1) listed a w:=by
 intro fuel
 induction fuel with
 |zero=>
  intro listed a w _ hr hy hS d;refine⟨λh=>(by rw[h]at hr;cases hr),λj hj=>?_⟩;by_cases hji:j=i;·subst hji;exact hy.wpOpIn (KN hnd hi) hi hS ⟨hS,d⟩
  have:=ready_mono hj hji;rw[d.1]at this;cases this
 |succ fuel ih=>
  intro listed a w hfree hr hy hS d;refine⟨λh=>(by rw[h]at hr;cases hr),λj hj=>?_⟩;by_cases hji:j=i;·subst hji;exact hy.wpOpIn (KN hnd hi) hi hS ⟨hS,d⟩
  have h1:=d.2 j<|ready_mono hj hji
  let⟨hjun,oj,hoj,hall⟩:=mem_ready.1 hj;have hnot:∀e∈oj.5,Region.binds md e=So->e.1≠i:=λe he hb heq=>by
   have h1:=hall e he hb;have h0:=(mem_ready.1 hr).1;rw[heq]at h1;obtain h'|h':=mL i (Z listed);·simp[h']at h0 h1;rw[h0]at h1;cases h1
   simp[iI h']at h1
  have h2:=AR (KN hnd hoj) hoj (hfree j oj hoj hji hjun hnot) (λcs b=>hsel i oi cs b hi) (λcs b=>hsel j oj cs b hoj) hQ hy h1;have hfree':∀k ok,ops[k]?=S ok->k≠i->(listed.setIfInBounds j So).getD k So=Sn ->
   (∀e∈ok.5,Region.binds md e=So->e.1≠i)->oi.apart ops ok=So:=λk ok hk hki hun hno=>by
   refine hfree k ok hk hki ?_ hno;by_cases hjk:j=k;·subst hjk;exact hjun
   rw[getD_set_ne So hjk]at hun;exact hun
  refine wpOpIn_mono (λa' w' h3=>⟨h3.2.1,ih (listed.setIfInBounds j So) a' w' hfree' (ready_mono hr<|kA hji) h3.1 h3.2.1 ?_⟩) h2;rw[Array.setIfInBounds_comm _ _ hji];exact h3.2.2
theorem AW{i:N}{oi:Oper}{v:Uj}{fuel:N}{listed:Zz}{a:Act}{w:Ub}(hi:ops[i]?=S oi)(hnd:WQ ops=So)(hs:Region.noSelect ops=So)(hf:Region.free md ops listed i=So)(hr:(Region.ready md ops listed).contains i=So)(hQ:∀c a w,Q_ (.panic c) (a.put oi.1 v) w->Q_ (.panic c) a w)(hy:YG P ops S_ oi v a)(hS:S_ w)(h:Y9 F n P md ops Q_ S_ fuel (listed.setIfInBounds i So) (a.put oi.1 v) w):Y9 F n P md ops Q_ S_ (fuel+1) listed a w :=
 AE hnd hi (Region.noSelect_spec hs) hQ fuel listed a w (Region.free_spec hi hf) (by simpa using hr) hy hS h
theorem AS{listed:Zz}{a:Act}{w:Ub}(hr:Region.ready md ops listed=[])(h:Q_ .normal a w):
 ∀fuel,Y9 F n P md ops Q_ S_ fuel listed a w
 |0=>⟨hr,h⟩
 |_+1=>⟨λ_=>h,by rw[hr];simp⟩
def Xu(F:Fence)(n:N)(P:Yh)(md:Region.Mode)(ops:Array Oper)(Q_:Yt)(S_:Vy)(fuel:N)(listed:Zz)(a:Act)(w:Ub)(rs:Wa):Prop :=
 ∀i∈rs,wpOpIn F n P ops Q_ i (λa' w'=>S_ w'/\Y9 F n P md ops Q_ S_ fuel (listed.setIfInBounds i So) a' w') a w
theorem Xu.nil{fuel:N}{listed:Zz}{a:Act}{w:Ub}:Xu F n P md ops Q_ S_ fuel listed a w []:=λ_ h=>by cases h
theorem Xu.cons{fuel:N}{listed:Zz}{a:Act}{w:Ub}{i:N}{o:Oper}{rs:Wa}(ho:ops[i]?=S o)(h:∀K':Tf,Shut (∀a w,S_ w->(S_ w->Y9 F n P md ops Q_ S_ fuel (listed.setIfInBounds i So) a w)->K' a w)->if Region.wanted o (yielded ops a.1)=So then Oper.wpIn F n P o a w K' Q_ else (∀f,o.about P w a.eval=S f->F.1 f)/\K' (a.put o.1 Su) w)(hs:Xu F n P md ops Q_ S_ fuel listed a w rs):Xu F n P md ops Q_ S_ fuel listed a w (i::rs):=λj hj=>by
 obtain rfl|hj:=cH.1 hj;·exact wpOpIn_step ho λK' hK=>h K' λa w hS hW=>hK a w ⟨hS,hW hS⟩
 exact hs j hj
theorem YM{rs:Wa}{fuel:N}{listed:Zz}{a:Act}{w:Ub}(hr:Region.ready md ops listed=rs)(hne:rs≠[])(h:Xu F n P md ops Q_ S_ fuel listed a w rs):Y9 F n P md ops Q_ S_ (fuel+1) listed a w:=⟨λh0=>Sz (hr▸h0) hne,hr▸h⟩
def k9(Q_:Exit->Act->World->Prop):Exit->Act->World->Prop
 |.normal,a,w=>Q_ .normal a w
 |_,_,_=>False
theorem Tl{id:N}{a:Act}{w:Ub}(hm:P.follows .mixedOrders=So)(hS:S_ w.drew)(h:S_ w.drew->Y9 F n P .any ops (k9 Q_) S_ (Z ops) (Array.replicate (Z ops) Sn) a w.drew):(Code.region id ops So).wpIn F n P Q_ a w :=
 wpIn_mono (wpIn_region_any (Q:=k9 Q_) hm (K6 _ _ _ _<|h hS)) λe _ _ h=>by cases e<;>first|exact h|exact h.elim
theorem AH{listed:Zz}{a:Act}{w:Ub}(hr:Region.ready md ops listed=[])(h:Q_ .normal a w)(fuel:N):Y9 F n P md ops (k9 Q_) S_ fuel listed a w:=AS (Q_:=k9 Q_) hr (show k9 Q_ .normal a w from h) fuel
end
theorem Yi{F:Fence}{n:N}{P:Yh}{md:Region.Mode}{ops:Array Oper}{Q_:Yt}{S_:Vy}(i:N){oi:Oper}{v:Uj}{fuel:N}{listed:Zz}{a b:Act}{w:Ub}(h:Y9 F n P md ops Q_ S_ fuel (listed.setIfInBounds i So) b w)(hi:ops[i]?=S oi:=by exact rfl)(hw:Region.wanted oi (yielded ops a.1)=So:=by rfl)(hy:∀(w:Ub),S_ w->Sem.run P (execOp a.eval oi) w=Result.ok (Next.value v) w:=by intro w hSw;(try dsimp only at hSw);go_simp;try with_reducible rfl)(hp:a.put oi.1 v=b:=by(simp only[xX]);exact rfl)(hq:∀c a w,Q_ (.panic c) (a.put oi.1 v) w->Q_ (.panic c) a w:=by exact λ_ _ _ h=>h)(hz:∀w,oi.about P w a.eval=U:=by exact λ_=>rfl)(hnd:WQ ops=So:=by kernel_rfl)(hs:Region.noSelect ops=So:=by kernel_rfl)(hf:Region.free md ops listed i=So:=by kernel_rfl)(hr:(Region.ready md ops listed).contains i=So:=by kernel_rfl)(hS:S_ w:=by assumption):Y9 F n P md ops Q_ S_ (fuel+1) listed a w:=AW hi hnd hs hf hr hq ⟨bC ⟨hw,hy⟩,hz⟩ hS (hp▸h)
theorem Yc{F:Fence}{n:N}{P:Yh}{md:Region.Mode}{ops:Array Oper}{Q_:Yt}{S_:Vy}(i:N){oi:Oper}{fuel:N}{listed:Zz}{a:Act}{w:Ub}(h:∀K':Tf,Shut (∀a w,S_ w->∀{b:Act},(S_ w->Y9 F n P md ops Q_ S_ fuel (listed.setIfInBounds i So) b w)->(hp:a=b:=by(try simp only[xX]);exact rfl)->K' a w)->if Region.wanted oi (yielded ops a.1)=So then Oper.wpIn F n P oi a w K' Q_ else (∀f,oi.about P w a.eval=S f->F.1 f)/\K' (a.put oi.1 Su) w)(hi:ops[i]?=S oi:=by exact rfl)(hr:Region.ready md ops listed=[i]:=by kernel_rfl):Y9 F n P md ops Q_ S_ (fuel+1) listed a w:=YM (rs:=[i]) hr (by simp) (Xu.cons hi (λK hK=>h K λa w hs b k hp=>hK a w hs (hp▸k)) Xu.nil)
theorem Tc{F:Fence}{n:N}{P:Yh}{ops:Array Oper}{Q_:Yt}(S_:Vy){id:N}{a:Act}{w:Ub}(h:S_ w.drew->Y9 F n P .any ops (k9 Q_) S_ (Z ops) (Array.replicate (Z ops) Sn) a w.drew)(hS:S_ w.drew:=by first|with_reducible exact True.intro|((try dsimp only);go_keep))(hm:P.follows .mixedOrders=So:=by kernel_rfl):(Code.region id ops So).wpIn F n P Q_ a w:=Tl hm hS h
theorem ZV{F:Fence}{n:N}{P:Yh}{md:Region.Mode}{ops:Array Oper}{Q_:Yt}{S_:Vy}{listed:Zz}{a:Act}{w:Ub}{fuel:N}(h:Q_ .normal a w)(hr:Region.ready md ops listed=[]:=by kernel_rfl):Y9 F n P md ops (k9 Q_) S_ fuel listed a w:=AH hr h fuel
end
def K8(l:Wn):ByteArray:=⟨l.toArray⟩
theorem i7(l):(K8 l).size=J l:=by simp[K8,ByteArray.size]
structure Gr(w w':Ub)(u v:Uj):Prop where
 grown:w.grownBy w' u.ownBlock
 own:∀g,v.ownBlock=S g->Z w.1<=g\/u.ownBlock=S g
theorem Gr.refl(w:Ub)(u:Uj):Gr w w u u:=⟨⟨R,R,R,aA,λ_ _ _=>R⟩,λ_ h=>aZ h⟩
theorem Gr.below(h:Gr w v a A_)(e:Sx w n m k a B y)(c:Sw n u w)(b:n<=Z w.1):Sw n u v :=
 c.grown h.1 b λf d=>(e.lt f d).1
def bz(a:I):Wn :=
 if a=1 then [99,111,110,115,116]else if a=2 then [97,114,103]else if a=3 then [97,100,100]else if a=4 then [115,117,98]else if a=5 then [109,117,108]
 else if a=6 then [100,105,118]else if a=7 then [108,101,115,115]else if a=8 then [108,111,97,100]else if a=9 then [115,116,111,114,101]else if a=11 then [109,111,118,101]else if a=12 then [112,117,116]else if a=13 then [103,101,116]else [111,117,116]
theorem Lb(a:I)(h:1<=a/\a<=13)(w:Ub):
 Sk prog 54 #[H a] w λe c=>e=Rt (Sg (K8<|bz a))/\c=w:=by
 have b:a=1\/a=2\/a=3\/a=4\/a=5\/a=6\/a=7\/a=8\/a=9\/a=10\/a=11\/a=12\/a=13:=O;obtain rfl|rfl|rfl|rfl|rfl|rfl|rfl|rfl|rfl|rfl|rfl|rfl|rfl:=b
 all_goals
  go_in
  go_wp2;go_ret;exact⟨R,R⟩
def Pz(x:Yg)(c:UInt8):Wc:=if c=100 then [x.2]else if c=97 then [x.a]else if c=98 then [x.b]else if c=105 then [x.5]else []
theorem BE:(l++[t]).map (Si S6)=l.map (Si S6)++[H t]:=sP
theorem Wj{a:Za}{p:Ph}:XG (a++[p])=XG a++[p.1]:=by simp[XG]
theorem Vx{a:Vr}{p:Yg}:XI (a++[p])=XI a++(if dB p.1 then [p.2]else []):=by
 simp only[XI,eU,bG];congr 1;cases h:dB p.1<;>simp[h]
theorem U0:BX (x++[q])=BX x++Z6 q:=by simp[BX]
theorem TP(a:Vr):J (XI a)<=J a:=by simp only[XI,bK];exact fJ _ _
theorem KP(a:Wi):J (BX a)<=Xx a:=by
 induction a with
 |nil=>simp[BX]
 |cons x a e=>
  have b:BX (x::a)=Z6 x++BX a:=by simp[BX]
  have c:Xx (x::a)=ZZ x+Xx a:=by simp[Xx]
  have d:J (Z6 x)<=ZZ x:=by
   simp only[Z6,XG,aQ,bK,ZZ];have:=TP x.2;omega
  rw[b,c,aQ];omega
theorem uZ{wr:Ub}(g:Sw (Z w.1) w wr)(f:Z w.1<Z wr.1)(e:E wr ⟨Z w.1,1,U⟩=S (X p m c))(o:Obj)(d:Sx wr (Z w.1+1) 2 1 a n y)(b:(D wr o).grownBy v a.ownBlock):
 Sw (Z w.1) w v/\Z w.1<Z v.1/\E v ⟨Z w.1,1,U⟩=S (X p m c)/\Z wr.1<=Z v.1:=by
 have h:=b.4;simp at h;refine⟨Xy (Xb g _) b (d.alloc _) O SB,O,?_,O⟩;exact G (Xc<|YJ b (d.alloc _) (b:=Z w.1) O SB) (oB (Xb (Below.refl (Z wr.1) wr) _) e f)
theorem BU(ha:Q (Xp w m k p x))(V_:Q (n=J x))(hn:n<=1048576)(hs:Q (Xx x<=1048576))(hB:k<=Z w.1):
 Sk prog 84 #[Sa #[H t,X p n c]] w λo T=>∃M_ c',o=Rt (X M_ (J (BX x)) c')/\Sw (Z w.1) w T/\Xf T (Z w.1) (Z T.1) M_ (BX x):=by
 let⟨i0,S_,W_,Y_,Z_⟩:=fX RH
 go_in
 go_wp2
 go_loopw [3,4] (λu i wr=>∃a:N,a<=n/\i=H a/\Sw (Z w.1) w wr/\Z w.1<Z wr.1/\E wr (A (Z w.1) 1)=S (X p n c)/\Sx wr (Z w.1+1) 2 1 u (J (BX<|x.take a)) ((BX<|x.take a).map (Si S6))) λ_ i _=>n-(intOf i).toNat
 case atStart=>exact⟨0,aN,R,Xb (Xb Rf _) _,SB,sP,K5 _ _⟩
 obtain⟨a,hk,rfl,U_,al,ad,C⟩:=hrel;by_cases ar:a<n
 .have V:a<J x:=oN V_.o
  obtain⟨N_,ab,rfl,⟨_,ao⟩,Q_⟩:=ha a V;have L_:=Y Q_;have aj:Q (BX (x.take<|a+1)=BX (x.take a)++(XG x[a].1++XI x[a].2)):=by
   show _=_;rw[X7 V,U0];rfl
  have ap:J (BX<|x.take a)+(J x[a].1+JG x[a].1+J x[a].2)<=1048576:=by
   have h1:=UX x<|a+1;rw[X7 V,Vm]at h1;have h2:=KP<|x.take a;have r:=hs.o;have h4:ZZ x[a]=J x[a].1+JG x[a].1+J x[a].2:=R;omega
  have az:J x[a].1<=1048576:=O;have aq:J x[a].2<=1048576:=O;have HO:=Y C;clear C Q_;generalize hX:x[a]=K at*;clear hX;generalize BX (x.take a)=L at*;let⟨pa,pc,ia,ic,O_,e1,_,T_,R_⟩:=L_.o;have HP:=Y T_;have HI:=Y R_;have E0:=Y O_;have K_:=Y e1;clear O_ e1 T_ R_ L_;go_wp2
  go_loopw [3,5] (λu i g=>∃j:N,j<=J K.1/\i=H j/\Sw (Z w.1) w g/\Z w.1<Z g.1/\E g (A (Z w.1) 1)=S (Hm N_ ab n c)/\Sx g (Z w.1+1) 2 1 u (J (L++XG (K.1.take j))) ((L++XG (K.1.take j)).map (Si S6))) λ_ i _=>J K.1-(intOf i).toNat
  case atStart=>exact⟨0,aN,R,U_,al,ad,by simpa [XG]using HO.o⟩
  obtain⟨j,e,rfl,b,l,h,f⟩:=hrel;have f0:=G (XU b O) E0;have f1:=G (XU b O) K_;by_cases s:j<J K.1
  .obtain⟨b',o',rfl,⟨_,ac⟩,aa,cc,q,M,_⟩:=HP j s;have e2:=G (XU b O) q;have r:Q (L++XG (K.1.take<|j+1)=(L++XG (K.1.take j))++[K.1[j].1]):=by show _=_;rw[X7 s,Wj,cK]
   have hl:J (L++XG (K.1.take j))<=1048576:=by simp[XG];omega
   clear q M;generalize K.1[j]=P at*;generalize L++XG (K.1.take j)=D1 at*;have d:=Y f;clear f f1;go_wp2_with (at_builtin;refine fT _ R _ _ 35 R (Z w.1+1) 2 i0 (H 0) 1 8 underlying35 S_ W_ Y_ Z_ R vY _ _ _ R (d.alloc _) (A (Z wr.1) 0) 1 1 [H P.1] R R ?c1 ?c2 ?c3 ?c4 ?c5 ?_)
   case c1=>
    intro j u e
    match j,e with
    |0,e=>simp at e;subst e;simp[Addr.add]
   case c2=>intro u y;simp at y;subst y;rfl
   case c3=>unfold maxLen;omega
   case c4=>omega
   case c5=>simp;omega
   intro v1 w1 v W _;have F:=Y v;clear v;go_wp2;let⟨q1,q2,q3,_⟩:=uZ b l h _ d W;exact⟨⟨j+1,O,gM,q1,q2,q3,by rw[r.o,Yl];simpa using F.o⟩,SA⟩
  have B:=Y<|aW (l:=K.1) (i:=j) O;have d:=Y f;clear f;go_wp2
  go_loopw [3,6] (λu i g=>∃j:N,j<=J K.2/\i=H j/\Sw (Z w.1) w g/\Z w.1<Z g.1/\E g (A (Z w.1) 1)=S (Hm N_ ab n c)/\Sx g (Z w.1+1) 2 1 u (J (L++XG K.1++XI (K.2.take j))) ((L++XG K.1++XI (K.2.take j)).map (Si S6))) λ_ i _=>J K.2-(intOf i).toNat
  case atStart=>exact⟨0,aN,R,b,l,h,by have:=d.o;rw[B.o]at this;simpa [XI]using this⟩
  clear b l h f0 f1 d B;obtain⟨j,e,rfl,b,l,h,f⟩:=hrel;have f1:=G (XU b O) K_;by_cases s:j<J K.2
  .obtain⟨b',o',rfl,⟨_,ac⟩,q,M,_,_,_⟩:=HI j s;have e2:=G (XU b O) q;have e3:=G (XU b O) M;have r:Q (L++XG K.1++XI (K.2.take<|j+1)=(L++XG K.1++XI (K.2.take j))++(if dB K.2[j].1 then [K.2[j].2]else [])):=by show _=_;rw[X7 s,Vx,<-cK]
   have hl:J (L++XG K.1++XI (K.2.take j))<=1048576:=by have:=TP<|K.2.take j;simp[XG]at this |-;omega
   clear q M;generalize K.2[j]=P at*;generalize L++XG K.1++XI (K.2.take j)=D1 at*;have d:=Y f;clear f;cases hd:dB P.1
   .have E_:=Y hd;go_wp2_with (go_at_call 46;refine(nZ _ _).mono ?_;rintro o J_⟨rfl,z⟩;rw[z];clear z J_)
    exact⟨⟨j+1,O,gM,b,l,h,by rw[r.o,E_.o];simpa using d.o⟩,SA⟩
   have E_:=Y hd;go_wp2_with (first|(go_at_call 46;refine(nZ _ _).mono ?_;rintro o J_⟨rfl,z⟩;rw[z];clear z J_)|(at_builtin;refine fT _ R _ _ 35 R (Z w.1+1) 2 i0 (H 0) 1 8 underlying35 S_ W_ Y_ Z_ R vY _ _ _ R (d.alloc _) (A (Z wr.1) 0) 1 1 [H P.2] R R ?c1 ?c2 ?c3 ?c4 ?c5 ?_))
   case c1=>
    intro j u e
    match j,e with
    |0,e=>simp at e;subst e;simp[Addr.add]
   case c2=>intro u y;simp at y;subst y;rfl
   case c3=>unfold maxLen;omega
   case c4=>omega
   case c5=>simp;omega
   intro v1 w1 v W _;have F:=Y v;clear v;go_wp2;let⟨q1,q2,q3,_⟩:=uZ b l h _ d W;exact⟨⟨j+1,O,gM,q1,q2,q3,by rw[r.o,E_.o,aU R,Yl];simpa using F.o⟩,SA⟩
  have B:=Y<|aW (l:=K.2) (i:=j) O;have d:=Y f;clear f;go_wp2;exact⟨⟨a+1,O,gM,b,l,h,by have:=d.o;rw[B.o]at this;rw[aj.o,<-cK];exact this⟩,SA⟩
 go_wp2;go_ret;have o:=aW (l:=x) (i:=a) (oN V_.o);rw[o]at C;obtain⟨a1,c1,rfl,af⟩:=Xk C;exact⟨_,_,R,U_,af.mono O<|aA⟩
theorem Um{P:Yh}(d:N)(t j e:TypeId)(i:TypeInfo)(h:N)(b:P.underlying t=S (.slice e))(a:P.info? e=S i)(v:Uj)(n c:N)(k:Wo)(f:Sx w d e h v n k):
 (Builtin.append_ #[t,t] j #[v,X U 0 c]).run P w=.ok v w:=by
 obtain⟨rfl,rfl⟩|⟨g,cap,cur,rfl,_,_,hnc,_⟩:=f.2;·simp[Builtin.append_,run_underlying b,sizeOf,typeInfo,a,Builtin.lenOf,Builtin.firstCells]
 simp[Builtin.append_,run_underlying b,sizeOf,typeInfo,a,Builtin.lenOf,Builtin.firstCells,hnc,storeCells]
theorem Cj{b:Addr}(f:Xf w n m (S b) l):∀j u,(l.map<|Value.int S6)[j]?=S u->E w (b.add j)=S u:=by
 intro j u a;have c:j<J l:=by
  obtain h|h:=mL j (J l);·exact h
  rw[dK<|by simpa using h]at a;cases a
 obtain⟨g,o,e,-,d⟩:=f j c;cases e;rw[dX,aC c]at a;cases a;rw[mK];exact d
theorem JD{o:Oper}{k:Act}{K:Tf}{M:Yt}(C x:Operand)(t:TypeId)(u:o.2=.call { callee:=.builtin .append,args:=#[C,x],argTypes:=#[t,t] })(g:N)(e:TypeId)(i:TypeInfo)(z:R_.underlying t=S (.slice e))(r:R_.info? e=S i)(P:i.8=S (H 0))(T:i.3=1)(V:i.4=8)(v:Uj)(b:Wc)(y:k.eval C=v)(p:Sx w g e 1 v (J b) (b.map<|Value.int S6))(s:v≠Hq)(f:Uy)(m c:N)(a:Wc)(L W:N)(B:k.eval x=X f m c)(n:m=J a)(F:Xf w L W f a)(U_:J b+m<=1000000000000)(I_:g<=Z w.1)(q:∀d j,Sx j g e 1 d (J (b++a)) ((b++a).map (Si S6))->Gr w j v d->d≠Hq->K (k.put o.1 d) j):
 o.wp R_ k w K M:=by
 cases f with
 |none=>
  have H_:a=[]:=by
   cases a with
   |nil=>rfl
   |cons x V_=>let⟨_,_,e,_⟩:=F 0 sP;cases e
  subst H_;subst n;have N_:=Um (P:=R_) (w:=w) g t o.3 e i 1 z r v (J b) c _ p;unfold Oper.wp execOp;simp only[u,resolve,invoke,builtin,lG,lH,jE,jN,eH,fZ,y,B,bO,N_];exact q v w (by simpa using p) (Gr.refl _ _) s
 |some f=>
  let⟨d,j,M_,E_,F_,G_,h⟩:=kI (P:=R_) w g t o.3 e i (H 0) 1 8 z r P T V R vY v (J b) _ p f m c (a.map<|Value.int S6) (by simp[n]) (Cj F) (by intro W_ P_;obtain⟨X_,-,rfl⟩:=aY.1 P_;rfl) SD O I_;unfold Oper.wp execOp;simp only[u,resolve,invoke,builtin,lG,lH,jE,jN,eH,fZ,y,B,M_];refine q d j (by rw[aQ,bG,<-n];exact E_) ⟨F_,λT_ l=>?_⟩ λe=>s (G_.1 e).1;obtain h|h:=h;·exact aZ (h▸l)
  rw[h]at l;cases l;exact bC<|aA
theorem AT{b a:I}:
 Sk prog 142 #[Sa #[H t,H T,H z,H b,H a]] w λe c=>e=Rt (Sb (Wu ⟨t,T,z,b,a⟩))/\Sw (Z w.1) w c:=by
 go_in
 go_wp2
 all_goals
  go_ret;refine⟨Xl ?_,Xb Rf _⟩
  first|(simp[Wu, *];done)|(simp[Wu, *];omega)
def Uw(w:Ub):Prop:=0 < Z w.1/\∀k:N,1<=k->k<=13->∃s,E w ⟨0,k*5,U⟩=S (Sg s)/\E w ⟨0,k*5+1,U⟩=S (Sb (dB k))/\E w ⟨0,k*5+2,U⟩=S (Sb (aB k)) /\
 E w ⟨0,k*5+3,U⟩=S (Sb (bB k))/\∃i,E w ⟨0,k*5+4,U⟩=S (Sb i)
def T7(w:Ub):Prop:=1 < Z w.1/\∀k:N,1<=k->k<=3->∃s,E w ⟨1,k*4,U⟩=S (Sg s)/\E w ⟨1,k*4+1,U⟩=S (Sb ((k:I) != 1))/\E w ⟨1,k*4+2,U⟩=S (Sb ((k:I) != 3)) /\
 E w ⟨1,k*4+3,U⟩=S (Sb ((k:I)==2))
theorem Uw.keep{w':Ub}(h:Uw w)(k:Sw (Z w.1) w w'):Uw w':=by
 refine⟨aX h.1 k.4,λi a b=>?_⟩;have e:=λo=>Xc (o:=o) (k.5 0 h.1);let⟨s,c0,c1,c2,c3,j,c4⟩:=h.2 i a b;exact⟨s,G (e _) c0,G (e _) c1,G (e _) c2,G (e _) c3,j,G (e _) c4⟩
theorem T7.keep{w':Ub}(h:T7 w)(k:Sw (Z w.1) w w'):T7 w':=by
 refine⟨aX h.1 k.4,λi a b=>?_⟩;have e:=λo=>Xc (o:=o) (k.5 1 h.1);let⟨s,c0,c1,c2,c3⟩:=h.2 i a b;exact⟨s,G (e _) c0,G (e _) c1,G (e _) c2,G (e _) c3⟩
theorem AB(a e c d f n b:I)(z:b<=13)(l:Q (Uw w)):
 Sk prog 73 #[Sa #[H a,H e,H c,H d,H f],H b,H n] w λg v=>g=Rt (Sb (Yw n b ⟨a,e,c,d,f⟩))/\Sw (Z w.1) w v:=by
 by_cases j:1<=a/\a<=b
 .let⟨i,q⟩:=j
  obtain⟨k,rfl⟩:=bX (show 0<=a by omega);have K:=l.1;let⟨C,c0,c1,c2,c3,B,c4⟩:=l.2 k O O;have s:Q (Yw n b ⟨k,e,c,d,f⟩=(Tp (dB k) e 0 n&&Tp (aB k) c 0 n&&Tp (bB k) d 0 n&&Wu ⟨k,e,c,d,f⟩)):=by
   show _=_;unfold Yw;rw[eB i,eB q];simp
  generalize dB (k:I)=F at*;generalize aB (k:I)=L at*;generalize bB (k:I)=M at*;have y:(k:I)<=13:=O
  go_in
  go_wp2_with (first|(go_at_call 141;refine(Yp).mono ?_;rintro g p⟨rfl,o⟩;rw[o];clear o p)|(go_at_call 142;refine(AT).mono ?_;rintro g p⟨rfl,t⟩))
  all_goals
   go_ret;refine⟨Xl ?_,?_⟩;·rw[s.o];simp[*]
   first|exact Xg (Xb (Xb Rf _) _) t|exact Xb (Xb Rf _) _
 have u:∃r,r=Yw n b ⟨a,e,c,d,f⟩/\r=Sn:=⟨_,R,by
  unfold Yw;by_cases i:1<=a;·rw[dJ (p:=a<=b) O];simp
  rw[dJ (p:=1<=a) i];simp⟩
 obtain⟨r,m,rfl⟩:=u;rw[<-m];clear m;have h:a<1\/(1<=a/\b<a):=O;clear j;obtain h|⟨h,x⟩:=h
 all_goals
  go_in
  go_wp2
  all_goals
   go_ret;exact⟨R,Xb Rf _⟩
theorem TI{b a n:I}(c:Q (Uw w)):
 Sk prog 73 #[Sa #[H t,H T,H z,H b,H a],H 10,H n] w λe d=>e=Rt (Sb (Yw n 10 ⟨t,T,z,b,a⟩))/\Sw (Z w.1) w d :=
 AB t T z b a n 10 vY c
theorem Kn{tg n low a:I}(b:Q (T7 w)):
 Sk prog 72 #[Sa #[H t,H T,H tg,H z],H n,H low,H a] w λe l=>e=Rt (Sb (Zu n low a ⟨t,T,tg,z⟩))/\Sw (Z w.1) w l:=by
 by_cases h:1<=t/\t<=3
 .let⟨f,g⟩:=h
  obtain⟨k,rfl⟩:=bX (show 0<=t by omega);have p:=b.1;let⟨s,c0,c1,c2,c3⟩:=b.2 k O O;have i:Q (Zu n low a ⟨k,T,tg,z⟩=(Tp ((k:I) != 1) T 0 n&&Tp ((k:I) != 3) tg low a&&Tp ((k:I)==2) z low a)):=by
   show _=_;unfold Zu;rw[eB f,eB g];simp
  generalize ((k:I) != 1)=q at*;generalize ((k:I) != 3)=v at*;generalize ((k:I)==2)=u at*
  go_in
  go_wp2_with (go_at_call 141;refine(Yp).mono ?_;rintro e m⟨rfl,d⟩;rw[d];clear d m)
  all_goals
   go_ret;refine⟨Xl ?_,?_⟩;·rw[i.o];simp[*]
   exact Xb (Xb Rf _) _
 have j:∃r,r=Zu n low a ⟨t,T,tg,z⟩/\r=Sn:=⟨_,R,ug h⟩;obtain⟨r,c,rfl⟩:=j;rw[<-c];clear c;have o:t<1\/3<t:=O;clear h
 go_in
 go_wp2
 all_goals
  go_ret;exact⟨R,Xb Rf _⟩
theorem J4(t:Yj)(w:Ub):
 Sk prog 114 #[Sa #[H t.1,H t.a,H t.3,H t.4]] w λj f=>∃g c,j=Rt (X g (J t.tg) c)/\Sw (Z w.1) w f/\Xf f (Z w.1) (Z f.1) g t.tg:=by
 let⟨b,l,tg,k⟩:=t;by_cases d:b=1
 .subst d
  go_in
  go_wp2;go_ret;refine⟨_,_,R,Xb (Xb Rf _) _,λi a=>?_⟩;simp[Yj.tg]at a;subst a;exact⟨_,_,R,⟨sP,sP⟩,by simp[Yj.tg]⟩
 by_cases e:b=2
 .subst e
  go_in
  go_wp2;go_ret;refine⟨_,_,R,Xb (Xb Rf _) _,λi a=>?_⟩;simp[Yj.tg]at a
  match i,a with
  |0,_=>exact⟨_,_,R,⟨sP,sP⟩,by simp[Yj.tg]⟩
  |1,_=>exact⟨_,_,R,⟨sP,sP⟩,by simp[Yj.tg]⟩
 have e1:(b==1)=Sn:=by simp[d]
 have e2:(b==2)=Sn:=by simp[e]
 have h:(Yj.tg ⟨b,l,tg,k⟩)=[]:=by simp[Yj.tg,d,e]
 rw[h]
 go_in
 go_wp2;go_ret;exact⟨_,_,R,Xb Rf _,λi a=>Sz a sP⟩
theorem RF:(prog.info? 119).map (λi=>(i.8,i.3,i.4))=S (S<|H 0,1,8):=vZ
theorem Yz(a c:N)(ha:Q (Xf w n m p l))(t:Q (a=J l))(R_:a<=100000)(M_:m<=Z w.1):
 Sk prog 160 #[X p a c] w λB f=>∃g K,B=Rt (X g (J l) K)/\Sw (Z w.1) w f/\Xf f (Z w.1) (Z f.1) g l:=by
 let⟨L,C,M,F,P⟩:=fX RF;have y:Q (Sx (D w<|.cells #[] 119) (Z w.1) 119 1 (Hl (Z w.1) 0 0) 0 []):=Y<|eI (base:=Z w.1) (e:=119) (size:=1) w #[] 0 sP sP R
 go_in
 go_wp2
 go_loopw [3,9] (λu i wr=>∃k:N,k<=a/\i=H k/\Sw (Z w.1) w wr/\Q (Sx wr (Z w.1) 119 1 u k<|(l.take k).map (Si S6))) λ_ i _=>a-(intOf i).toNat
 case atStart=>exact⟨0,aN,R,Xb Rf _,y⟩
 obtain⟨k,P_,rfl,d,e⟩:=hrel;by_cases Q_:k<a
 .have o:k<J l:=oN t.o;obtain⟨L_,T_,rfl,⟨_,N_⟩,h⟩:=ha k o;have O_:=G (XU d O) h;have x:=Y<|X7 o;generalize l[k]=T at*;have S_:=d.4;go_wp2_with (at_builtin;refine fT _ R _ _ 196 R (Z w.1) 119 L (H 0) 1 8 underlying196 C M F P R vY _ _ _ R (e.alloc _) (A (Z wr.1) 0) 1 1 [H T] R R ?c1 ?c2 ?c3 ?c4 ?c5 ?_)
  case c1=>
   intro V u b
   match V,b with
   |0,b=>simp at b;subst b;simp[Addr.add]
  case c2=>intro u s;simp at s;subst s;rfl
  case c3=>unfold maxLen;omega
  case c4=>omega
  case c5=>simp;omega
  intro v1 U_ r j _;have z:=Y r;have v:=Y (Xy (Xb d _) j (e.alloc _) aA SB);go_wp2;exact⟨⟨k+1,O,gM,v,Y<|by rw[x.o,Yl,List.map_take];exact z⟩,SA⟩
 go_wp2;go_ret;have q:=e.o;rw[aW (l:=l) (i:=k) (oN t.o)]at q;obtain⟨K_,c1,rfl,W⟩:=Xk q;exact⟨_,_,R,d,W⟩
def C9(tg:N->List N):N->N->(N->N)×List N->(N->N)×List N
 |0,_,s=>s
 |m+1,b,s=>if Xh s.1 b=So then s else
  (((tg b).foldl (λs t=>C9 tg m t s) (YH s.1 b,s.2)).1,((tg b).foldl (λs t=>C9 tg m t s) (YH s.1 b,s.2)).2++[b])
def X8(a:List Xe)(b:N):List N:=match a[b]? with
 |some x=>x.3.tg.map Int.toNat
 |none=>[]
theorem Km(h:n<J x):X8 x n=x[n].3.tg.map Int.toNat:=by
 unfold X8;rw[aC h]
def XB(W:Wk)(n:N):N:=J ((Rg n).filter λx=>!Xh W x)
theorem JY(n)(h:∀x,Xh f x=So->Xh F x=So):XB F n<=XB f n:=by
 unfold XB;rw[<-gK,<-gK];refine List.countP_mono_left λx _ a=>?_;cases h1:Xh f x with
 |false=>rfl
 |true=>rw[h x h1]at a;cases a
theorem T8(h:XB f n=0)(a:m<n):Xh f m=So:=by
 unfold XB at h;have:=mJ.1 (List.length_eq_zero_iff.1 h) m (bE.2 a);simpa using this
theorem Tb{W}(d:m<n)(f:Xh W m=Sn):XB (YH W m) n+1<=XB W n:=by
 have h:∀n,XB (YH W m) n+(if m<n then 1 else 0)<=XB W n:=λn=>by
  induction n with
  |zero=>simp[XB]
  |succ n a=>
   unfold XB at*;rw[dN,eU,eU,aQ,aQ];by_cases e:n=m
   .subst e;rw[aM O]at a;rw[aU O];have c:J ([n].filter λx=>!Xh (YH W n) x)=0:=by simp[Z8]
    have i:J ([n].filter λx=>!Xh W x)=1:=by simp[f]
    omega
   have c:J ([n].filter λx=>!Xh (YH W m) x)=J ([n].filter λx=>!Xh W x):=by
    congr 1;refine lW λx g=>?_;have:x=n:=by simpa using g
    subst this;rw[Z8,dJ e,jV]
   by_cases b:m<n;·rw[aU b]at a;rw[aU O];omega
   rw[aM b]at a;rw[aM O];omega
 have:=h n;rw[aU d]at this;exact this
theorem KB(tg:Yr):∀(m b:N)(s:Wk×Wa)(x:N),Xh s.1 x=So->Xh (C9 tg m b s).1 x=So
 |0,_,_,_,h=>h
 |m+1,b,s,x,h=>by
  rw[C9];split;·exact h
  have c:∀(l:Wa)(s:Wk×Wa),Xh s.1 x=So->Xh (l.foldl (λs t=>C9 tg m t s) s).1 x=So:=λl=>by
   induction l with
   |nil=>intro s h;exact h
   |cons t l a=>intro s h;exact a _<|KB tg m t s x h
  exact c _ _<|by rw[Z8,h];simp
theorem oW(tg:Yr):∀(m b:N)(s:Wk×Wa),XA s.1->XA (C9 tg m b s).1
 |0,_,_,h=>h
 |m+1,b,s,h=>by
  rw[C9];split;·exact h
  have c:∀(l:Wa)(s:Wk×Wa),XA s.1->XA (l.foldl (λs t=>C9 tg m t s) s).1:=λl=>by
   induction l with
   |nil=>intro s h;exact h
   |cons t l a=>intro s h;exact a _<|oW tg m t s h
  exact c _ _<|oV h b
theorem Ue(tg:Yr)(m)(l:Wa)(s:Wk×Wa)(x)(h:Xh s.1 x=So):Xh (l.foldl (λs t=>C9 tg m t s) s).1 x=So:=by
 induction l generalizing s with
 |nil=>exact h
 |cons t l a=>exact a _<|KB tg m t s x h
theorem Ei(tg:Yr)(m)(l:Wa)(s:Wk×Wa)(h:XA s.1):XA (l.foldl (λs t=>C9 tg m t s) s).1:=by
 induction l generalizing s with
 |nil=>exact h
 |cons t l a=>exact a _<|oW tg m t s h
theorem qE(tg:Yr){n}(a:∀b,b<n->∀t∈tg b,t<n):∀(m b:N)(s:Wk×Wa),b<n->J (C9 tg m b s).2+XB (C9 tg m b s).1 n<=J s.2+XB s.1 n
 |0,_,_,_=>aA
 |m+1,b,s,hb=>by
  rw[C9];split;·exact aA
  rename_i d;have e:Xh s.1 b=Sn:=by simpa using d
  have j:=Tb hb e;have i:∀(l:Wa)(s:Wk×Wa),(∀t∈l,t<n)->J (l.foldl (λs t=>C9 tg m t s) s).2+XB (l.foldl (λs t=>C9 tg m t s) s).1 n<=J s.2+XB s.1 n:=λl=>by
   induction l with
   |nil=>intro s _;exact aA
   |cons t l g=>
    intro s h;exact aJ (g _ λx f=>h x<|cN _ f) (qE tg a m t s<|h t cI)
  have c:=i (tg b) (YH s.1 b,s.2) (a b hb);rw[aQ];dsimp only at c |-;simp only[bA,bO];omega
theorem DF(tg:Yr)(c:∀b,b<n->∀t∈tg b,t<n)(m)(a:Wk×Wa)(h:∀t∈s,t<n):J (s.foldl (λa t=>C9 tg m t a) a).2+XB (s.foldl (λa t=>C9 tg m t a) a).1 n<=J a.2+XB a.1 n:=by
 induction s generalizing a with
 |nil=>exact aA
 |cons t s e=>exact aJ (e _ λx d=>h x<|cN _ d) (qE tg c m t a<|h t cI)
theorem nY{tg:Yr}{s:Wk×Wa}(h:Xh s.1 n=Sn):C9 tg (m+1) n s=(((tg n).foldl (λs t=>C9 tg m t s) (YH s.1 n,s.2)).1,((tg n).foldl (λs t=>C9 tg m t s) (YH s.1 n,s.2)).2++[n]):=by
 rw[C9,aM<|by rw[h];decide]
theorem Vd{tg:Yr}{s:Wk×Wa}(h:Xh s.1 m=So):C9 tg n m s=s:=by
 cases n with
 |zero=>rfl
 |succ n=>rw[C9,aU h]
inductive Sp (I_:N->N->N) (T:N->N->N) (ord:N->Prop) (src:N->List N):N->N->Prop
 |init {b x:N}:Xh (I_ b) x=So->Sp I_ T ord src b x
 |take {b s x:N}:ord b->s∈src b->Sp I_ T ord src s x->Xh (T b) x=Sn->Sp I_ T ord src b x
def ZB(T:Vp)(b s:N)(W:Vp):Vp:=λi=>if i=b then NR (W b) (W s) (T b)else W i
def E5(T:Vp)(K b:N)(l:Wa)(s:Vp×Bool):Vp×Bool :=
 l.foldl (λs t=>(ZB T b t s.1,Ix (s.1 b) (s.1 t) (T b) K||s.2)) s
theorem Ay{T K b}(h:n<J s)(a:Vp×Bool):E5 T K b (s.take<|n+1) a=(ZB T b s[n] (E5 T K b (s.take n) a).1,Ix ((E5 T K b (s.take n) a).1 b) ((E5 T K b (s.take n) a).1 s[n]) (T b) K||(E5 T K b (s.take n) a).2):=by
 unfold E5;rw[bN h,dT];rfl
def XQ(W:Vp):Prop:=∀i,XA<|W i
theorem Uc(b s)(h:XQ N_):XQ (ZB M b s N_):=λi=>by
 unfold ZB;split;·exact q8 (h b) (h s)
 exact h i
theorem Ts(b s)(h:XQ N_)(a:XQ M)(i x):Xh (ZB M b s N_ i) x=(Xh (N_ i) x||(decide (i=b)&&Xh (N_ s) x&&!Xh (M b) x)):=by
 unfold ZB;by_cases e:i=b
 .subst e;rw[aU R,vD (h i) (a i)];simp
 rw[aM e];simp[e]
theorem TG{T:Vp}{K b:N}:∀(l:Wa)(s:Vp×Bool),XQ s.1->XQ (E5 T K b l s).1
 |[],_,h=>h
 |t::l,_,h=>TG l _<|Uc b t h
theorem JJ{T:Vp}{K b:N}(a:XQ T):∀(l:Wa)(s:Vp×Bool),XQ s.1->∀i x,Xh (s.1 i) x=So->Xh ((E5 T K b l s).1 i) x=So
 |[],_,_,_,_,h=>h
 |t::l,s,hs,i,x,h=>JJ a l _ (Uc b t hs) i x (by show Xh (ZB T b t s.1 i) x=So;rw[Ts b t hs a,h];rfl)
theorem T9{I_ T:Vp}{K b:N}{ord:Vv}{src:Yr}(c:XQ T)(d:ord b):∀(l:Wa)(s:Vp×Bool),XQ s.1->(∀t∈l,t∈src b)->(∀i x,Xh (s.1 i) x=So->Sp I_ T ord src i x)->∀i x,Xh ((E5 T K b l s).1 i) x=So->Sp I_ T ord src i x
 |[],_,_,_,h=>h
 |t::l,s,hs,hl,h=>T9 c d l _ (Uc b t hs) (λu g=>hl u<|cN _ g) (λi x j=>by
  have a:Xh (ZB T b t s.1 i) x=So:=j;rw[Ts b t hs c]at a;cases hi:Xh (s.1 i) x with
  |true=>exact h i x hi
  |false=>
   rw[hi]at a;simp only[jV,bY,bD,lV]at a;obtain⟨⟨rfl,e⟩,f⟩:=a;exact Sp.take d (hl t cI) (h t x e) f)
theorem WW{T:Vp}{K b:N}:∀(l:Wa)(s:Vp×Bool),s.2=So->(E5 T K b l s).2=So
 |[],_,h=>h
 |t::l,s,h=>WW l _<|by show(_||s.2)=So;rw[h];simp
theorem T6{T K b}(f:XQ T):∀(l:Wa)(s:Vp×Bool),XQ s.1->(E5 T K b l s).2=Sn->(∀i x,x<64*K->Xh ((E5 T K b l s).1 i) x=Xh (s.1 i) x)/\∀t∈l,∀x,x<64*K->Xh (s.1 t) x=So->Xh (T b) x=Sn->Xh (s.1 b) x=So
 |[],_,_,_=>⟨λ_ _ _=>R,λt p=>by cases p⟩
 |t::l,s,hs,hq=>by
  have k:(Ix (s.1 b) (s.1 t) (T b) K||s.2)=Sn:=by
   cases e:(Ix (s.1 b) (s.1 t) (T b) K||s.2)with
   |false=>rfl
   |true=>have:=WW (T:=T) (K:=K) (b:=b) l (ZB T b t s.1,Ix (s.1 b) (s.1 t) (T b) K||s.2) e;rw[show E5 T K b (t::l) s=E5 T K b l (ZB T b t s.1,Ix (s.1 b) (s.1 t) (T b) K||s.2)from R,this]at hq;cases hq
  have o:Ix (s.1 b) (s.1 t) (T b) K=Sn:=by
   cases e:Ix (s.1 b) (s.1 t) (T b) K with
   |false=>rfl
   |true=>rw[e]at k;cases k
  have j:∀x,x<64*K->Xh (s.1 t) x=So->Xh (T b) x=Sn->Xh (s.1 b) x=So:=λx a c d=>Eh (hs b) (f b) o a c d
  have g:∀i x,x<64*K->Xh (ZB T b t s.1 i) x=Xh (s.1 i) x:=λi x a=>by
   rw[Ts b t hs f];by_cases e:i=b
   .subst e;cases c:Xh (s.1 t) x with
    |false=>simp
    |true=>
     cases d:Xh (T i) x with
     |true=>simp
     |false=>rw[j x a c d];rfl
   simp[e]
  let⟨c,d⟩:=T6 f l (ZB T b t s.1,Ix (s.1 b) (s.1 t) (T b) K||s.2) (Uc b t hs) hq;refine⟨λi x a=>G (c i x a) (g i x a),λu h x a n m=>?_⟩;obtain rfl|h:=cH.1 h;·exact j x a n m
  have:=d u h x a (by rw[g u x a];exact n) m;rw[g b x a]at this;exact this
theorem UB{T K b}(a:XQ T):∀(l:Wa)(s:Vp×Bool),XQ s.1->s.2=Sn->(E5 T K b l s).2=So->XB ((E5 T K b l s).1 b) (64*K)<XB (s.1 b) (64*K)
 |[],s,_,h0,h1=>by rw[show E5 T K b [] s=s from R,h0]at h1;cases h1
 |t::l,s,hs,h0,h1=>by
  cases hg:Ix (s.1 b) (s.1 t) (T b) K with
  |false=>
   have f:E5 T K b (t::l) s=E5 T K b l (ZB T b t s.1,Sn):=by show E5 T K b l (ZB T b t s.1,Ix (s.1 b) (s.1 t) (T b) K||s.2)=_;rw[hg,h0];rfl
   rw[f]at h1 |-;refine aX (UB a l (ZB T b t s.1,Sn) (Uc b t hs) R h1) ?_;exact JY _ λx e=>by show Xh (ZB T b t s.1 b) x=So;rw[Ts b t hs a,e];rfl
  |true=>
   let⟨x,e,g,h,i⟩:=DV (hs b) (hs t) (a b) hg;have m:∀c:Wk,(∀y,Xh (s.1 b) y=So->Xh c y=So)->Xh c x=So->XB c (64*K)<XB (s.1 b) (64*K):=λc j k=>by
    have n:=Tb e i;have o:XB c (64*K)<=XB (YH (s.1 b) x) (64*K):=JY _ (λy d=>by
     rw[Z8]at d;cases hyx:decide (y=x)with
     |true=>rw[fV hyx];exact k
     |false=>rw[hyx,jV]at d;exact j y d)
    omega
   refine m _ (λy d=>JJ a (t::l) s hs b y d) ?_;refine JJ a l (ZB T b t s.1,Ix (s.1 b) (s.1 t) (T b) K||s.2) (Uc b t hs) b x ?_;show Xh (ZB T b t s.1 b) x=So;rw[Ts b t hs a,g,h];simp
theorem TN{T:Vp}{K b i:N}(h:i≠b):∀(l:Wa)(s:Vp×Bool),(E5 T K b l s).1 i=s.1 i
 |[],_=>R
 |t::l,s=>G (TN h l _) (by show ZB T b t s.1 i=_;unfold ZB;rw[aM h])
theorem We{W:Vp}(c:∀m k,Xh (M m) k=So->Xh (W m) k=So)(e:∀m k,Xh (W m) k=So->Sp M N_ d D_ m k)(b:∀m,d m->∀t∈D_ m,∀k,k<64*n->Xh (W t) k=So->Xh (N_ m) k=Sn->Xh (W m) k=So)(a:k<64*n):Xh (W m) k=So↔Sp M N_ d D_ m k:=by
 refine⟨e m k,λh=>?_⟩
 induction h with
 |init h=>exact c _ _ h
 |take f g _ i j=>exact b _ f _ g _ a (j a) i
theorem Vl(h:∀x,x<n->Xh F x=Xh f x):XB F n=XB f n:=by
 unfold XB;congr 1;exact lW λx a=>by rw[h x<|bE.1 a]
def JI(W:N->N->N)(K:N):N->N
 |0=>0
 |n+1=>JI W K n+XB (W n) (64*K)
theorem Vo{W a:Vp}{K:N}:∀n,(∀i,i<n->XB (a i) (64*K)=XB (W i) (64*K))->JI a K n=JI W K n
 |0,_=>R
 |n+1,h=>by rw[JI,JI,Vo n λi b=>h i O,h n O]
theorem tx{W a:Vp}{K b}(c:∀i,i≠b->a i=W i)(d:XB (a b) (64*K)<XB (W b) (64*K)):∀n,b<n->JI a K n<JI W K n
 |0,h=>Sz h O
 |n+1,h=>by
  rw[JI,JI];by_cases e:n=b
  .subst e;rw[Vo n λi f=>by rw[c i O]];omega
  rw[c n e];have:=tx c d n O;omega
def PN(T:Vp)(K:N)(a:Yr)(W:Vp)(b:N):Prop:=∀t∈a b,∀x,x<64*K->Xh (W t) x=So->Xh (T b) x=Sn->Xh (W b) x=So
theorem Eg{a}(h:PN M n D_ N_ m)(e:∀i x,x<64*n->Xh (a i) x=Xh (N_ i) x):PN M n D_ a m:=λt f x c b d=>by
 rw[e _ _ c]at b |-;exact h t f x c b d
def Ov(T:Vp)(K:N)(a:Yr)(W:Vp)(b:Wa)(q p:N):Prop:=∀j,j<q->PN T K a W (b.getD ((p+J b-1-j)%J b) 0)
theorem Vz:Ov M n D_ N_ s 0 m:=λj a=>Sz a O
theorem Br{a}(h:Ov M n D_ N_ s m k)(e:∀i x,x<64*n->Xh (a i) x=Xh (N_ i) x)(b:k<J s)(c:PN M n D_ N_ s[k]):Ov M n D_ a s (m+1) (k+1):=λj d=>by
 refine Eg ?_ e;cases j with
 |zero=>
  have:(k+1+J s-1-0)%J s=k:=by
   rw[show k+1+J s-1-0=k+J s by omega,kH,jM b]
  rw[this,show s.getD k 0=s[k] by simp[b]];exact c
 |succ j=>
  rw[show k+1+J s-1-(j+1)=k+J s-1-j by omega];exact h j O
theorem Bj(h:Ov M n D_ N_ s m (J s))(hq:m<J s):Ov M n D_ N_ s m 0:=λj a=>by
 have:=h j a;rw[show J s+J s-1-j=(0+J s-1-j)+J s by omega,kH]at this;exact this
theorem B6(h:Ov M n D_ N_ s (J s) m)(e:m<=J s)(b:k∈s):PN M n D_ N_ k:=by
 obtain⟨i,a,rfl⟩:=bR b;have d:(m+J s-1-(m+J s-1-i)%J s)%J s=i:=by
  by_cases c:i+1<=m
  .have e1:(m+J s-1-i)%J s=m-1-i:=by
    rw[show m+J s-1-i=(m-1-i)+J s by omega,kH,jM O]
   rw[e1,show m+J s-1-(m-1-i)=i+J s by omega,kH,jM a]
  have e1:(m+J s-1-i)%J s=m+J s-1-i:=jM O;rw[e1,show m+J s-1-(m+J s-1-i)=i by omega,jM a]
 have:=h ((m+J s-1-i)%J s) (dS _ O);rw[d,show s.getD i 0=s[i] by simp[a]]at this;exact this
theorem Qg:(prog.info? 203).map (λi=>(i.8,i.3,i.4))=S (S<|.int .u64 0,1,8):=vZ
theorem P5(f:N)(h:f=112\/f=137)(g K x:N)(W:Wk)(w:Ub)(d:Q (XA W))(b:Q (w.rowIs g 203 K λj=>Si .u64 (W j)))(u:x<64*K)(hK:K<=1000):Sk prog f #[Sa #[Hl g K K],H x] w λe k=>e=Rt (Sb (Xh W x))/\Sw (Z w.1) w k:=by
 have n:=rh x;have p:=rg x;have hq:x/64<K:=O;have s:x%64<64:=dS _ vY;have a:=b.cell hq;have i:=b.lt;have q:=λo=>oB (Xb (Below.refl (Z w.1) w) o) a i;have c:Q ((bits .and .u64 ((W (x/64):I)/2^(x%64)) 1==1)=Xh W x):=Y<|ux (d _);generalize r:x/64=l at*;generalize t:x%64=v at*;generalize W l=m at*;obtain rfl|rfl:=h
 go_in
 rotate_left
 go_in
 rotate_left
 all_goals (
  go_wp2;go_ret
  exact⟨AM c,Xb Rf _⟩)
theorem Ps(f:N)(c:f=122\/f=111\/f=168)(a:N)(w:Ub)(k:a<=60000):Sk prog f #[H a] w λe b=>∃g,e=Rt (Sa #[Hl g ((a+63)/64) ((a+63)/64)])/\Z w.1<=g/\Sw (Z w.1) w b/\b.rowIs g 203 ((a+63)/64) (λ_=>Si .u64 ((0:N):I)):=by
 have i:=fM (P:=prog) 108 203 (Si .u64 0) 8 underlying108 Qg R S6 S6 ((a+63)/64) O O;have hq:((a:I)+63).tdiv 64=(((a+63)/64:N):I):=by rw[fY O];omega
 have j:((a:I)+64-1)=(a:I)+63:=O;have hK:(a+63)/64<=1000:=O;generalize (a+63)/64=K at*;obtain rfl|rfl|rfl:=c
 go_in
 rotate_left
 go_in
 rotate_left
 go_in
 rotate_left
 all_goals (
  go_wp2;refine cC (v:=Sa #[Hl (Z w.1+1) K K]) (by first|(simp[results,results122,go_sem];done)|(simp[results,results111,go_sem];done)|(simp[results,results168,go_sem];done)) R ?_;refine⟨Z w.1+1,R,O,Xb (Xb Rf _) _,?_⟩;have d:=λh=>by
   have:=dG (D w h) (Si .u64 0) K 203;rwa[aO]at this
  exact d _)
theorem Pu(f:N)(y:f=120\/f=113\/f=170)(g K C n c:N)(W:Wk)(m:Uy)(a:Wa)(L B:N)(w:Ub)(ha:Q (Xf w L B m<|a.map Int.ofNat))(v:Q (n=J a))(hn:n<=4000)(z:Q (∀t∈a,t<64*K))(hK:K<=1000)(F:Q (XA W))(s:Q (Cp w g K C W))(X_:B<=Z w.1)(aa:¬(L<=g/\g<B)):
 Sk prog f #[Sa #[Hl g K C],X m n c] w λe x=>e=Rt (St #[])/\w.grownBy x (S g)/\Cp x g K C (E2 W a):=by
 obtain rfl|rfl|rfl:=y
 go_in
 rotate_left
 go_in
 rotate_left
 go_in
 rotate_left
 all_goals (
  go_wp2;have hg:=s.lt
  go_loopw [8] (λu wr=>∃q:N,q<=n/\u=H q/\Q (w.grownBy wr<|some g)/\E wr (A (Z w.1) 0)=S (Hl g K C)/\Q (Cp wr g K C<|E2 W (a.take q))) λu _=>n-(intOf u).toNat
  case atStart=>exact⟨0,aN,R,Y<|bW _ _ _,sP,Y<|s.alloc _⟩
  case round=>
   obtain⟨q,hq,rfl,h,M,b⟩:=hrel;by_cases ab:q<n
   .have l:q<J a:=oN v.o
    obtain⟨o,P,rfl,Y_,p⟩:=ha q (by simpa using l);have k:=G (Xc<|h.5 o O λe=>by injection e with e;omega) p;rw[cM]at k;have af:=z _<|aH l;have T:=Y<|VW (W:=W) l;have V:=Y<|Zs (a.take q) F;generalize a[q]=t at*;have U_:=rh t;have V_:=rg t;have R_:Cl wr o (P+q) (H t):=k;generalize E2 W (a.take q)=j at*;have r:t/64<K:=O;have J_:t%64<64:=dS _ vY;have S_:=b.cell r;have T_:=b.frozen;have z_:=Y<|tZ J_ (V<|t/64);have y_:Q (∀i,(if i=t/64 then j (t/64)|||2^(t%64)else j i)=E2 W (a.take<|q+1) i):=Y (λi=>by
     rw[T.o];unfold YH;by_cases e:i=t/64;·rw[aU e,aU e,e]
     rw[aM e,aM e])
    generalize Z_:t/64=d at*;generalize ac:t%64=Q_ at*;go_wp2;go_region;go_wp2;rw[z_.o];have O_:wr.grownBy (Se wr (A g d) (Si .u64 ((j d|||2^Q_:N):I))).drew (S g):=⟨R,R,R,by simp[World.setCell,World.drew],λal _ I_=>Below.heap_setCell _ _ _ _ λe=>I_<|by rw[e]⟩;refine⟨⟨q+1,O,gM,Y (h.andThen O_ λaj H_=>by cases H_;exact aZ R),?_,Y ?_⟩,SA⟩;·exact G (bH wr (A g d) (A (Z w.1) 0) _ (by show g≠Z w.1;omega)) M
    refine Cp.drew ((b.set d _ r).congr λi _=>?_);rw[<-y_.o i]
   have ad:q=n:=O;have E_:Q (a.take q=a):=Y<|aW (oN v.o);rw[E_.o]at b;go_wp2
   go_end0
   exact⟨R,h,b⟩)
theorem P8(l:N)(L:l=123\/l=239)(g b c K C n k:N)(x F T:Wk)(w:Ub)(r:Q (XA x))(m:Q (XA F))(P:Q (XA T))(hK:K<=1000)(z:Q (Cp w g K C x))(y:Q (Cp w b K n F))(M:Q (Cp w c K k T))(V:c≠g)(W:Q (b=g->x=F)):
 Sk prog l #[Sa #[Hl g K C],Sa #[Hl b K n],Sa #[Hl c K k]] w λe B=>e=Rt (Sb (Ix x F T K))/\w.grownBy B (S g)/\Cp B g K C (NR x F T):=by
 obtain rfl|rfl:=L
 go_in
 rotate_left
 go_in
 rotate_left
 all_goals (
  go_wp2;have l1:=z.lt;have Y_:=y.lt;have Z_:=M.lt
  go_loopw [7,14] (λG_ u wr=>∃q:N,q<=K/\u=H q/\G_=Sb (Ix x F T q)/\Q (w.grownBy wr<|some g)/\E wr (A (Z w.1) 0)=S (Hl g K C)/\E wr (A (Z w.1+2) 0)=S (Hl c K k)/\Q (Cp wr g K C λi=>if i<q then NR x F T i else x i)) λ_ u _=>K-(intOf u).toNat
  case atStart=>exact⟨0,aN,R,by rw[AK],Y (((bW w _ _).andThen (bW _ _ _) λv d=>aZ d).andThen (bW _ _ _) λv d=>aZ d),SC,SC,Y<|(((z.alloc _).alloc _).alloc _).congr λi _=>sP⟩
  case round=>
   obtain⟨q,hq,rfl,rfl,f,U_,V_,h⟩:=hrel;by_cases j:q<K
   .have e1:Cl wr g q (Si .u64 (x q)):=G (h.cell j) sP
    have e3:=G (Xc<|f.5 c Z_ λe=>V<|by injection e) (M.cell j);have e2:E wr (A b q)=S (Si .u64 (F q)):=by
     by_cases e:b=g;·rw[<-W.o e,e];exact e1
     exact G (Xc<|f.5 b Y_ λE_=>e<|by injection E_) (y.cell j)
    have ez:=h.frozen;have aa:=kM (F q) (T q) (m q) (P q);have P_:F q&&&(18446744073709551615-T q)<18446744073709551616:=iC jB<|m q;have ab:bits .andNot .u64 ((F q&&&(18446744073709551615-T q):N):I) (x q:I)=((NT x F T q:N):I):=kM _ (x q) P_ (r q);have ac:bits .or .u64 (x q:I) ((NT x F T q:N):I)=((NR x F T q:N):I):=u64_or_nat _ _ (r q) (WR m q);have o:=Y<|AL x F T q;have W_:g≠Z w.1:=O;have X_:g≠Z w.1+2:=O;have p:Q (Cp (Se wr (A g q) (Si .u64 (NR x F T q:I))) g K C λi=>if i<q+1 then NR x F T i else x i):=Y ((h.set q _ j).congr (λi _=>by
     by_cases e:i=q;·subst e;simp
     rw[aM e];by_cases e2:i<q;·rw[aU e2,aU O]
     rw[aM e2,aM O]))
    have x_:wr.grownBy (Se wr (A g q) (Si .u64 (NR x F T q:I))) (S g):=⟨R,R,R,SH,λaf _ N_=>Below.heap_setCell _ _ _ _ λe=>N_<|by rw[e]⟩;have a:=Y (f.andThen x_ λv d=>by cases d;exact aZ R);have s:=G (bH wr (A g q) (A (Z w.1) 0) (Si .u64 (NR x F T q:I)) W_) U_;have t:=G (bH wr (A g q) (A (Z w.1+2) 0) (Si .u64 (NR x F T q:I)) X_) V_;generalize J_:F q&&&(18446744073709551615-T q)=ad at*;generalize NR x F T q=Bq at*;generalize NT x F T q=D_ at*;generalize x q=Sq at*;generalize F q=Oq at*;generalize T q=Tq at*;generalize Ix x F T q=F_ at*;cases F_ with
    |true=>
     go_wp2;go_region;go_wp2;exact⟨⟨q+1,O,gM,by rw[o.o];rfl,Y ⟨a.1,a.2,a.3,a.4,a.5⟩,s,t,Y p.drew⟩,SA⟩
    |false=>
     go_wp2;go_region;go_wp2;exact⟨⟨q+1,O,gM,by rw[o.o];cases D_<;>rfl,Y ⟨a.1,a.2,a.3,a.4,a.5⟩,s,t,Y p.drew⟩,SA⟩
   have Q_:q=K:=O;subst Q_;go_wp2;go_ret
   exact⟨R,f,h.congr λi M_=>by rw[aU M_]⟩)
abbrev Ty:=@Ps 122<|bC R
abbrev ZG:=@Pu 120<|bC R
abbrev Tv:=@P8 123<|bC R
abbrev Jm:=@P5 112<|bC R
abbrev Tt:=@Ps 111<|aZ (bC R)
abbrev Tz:=@Pu 113<|aZ (bC R)
theorem d6{p:Array Oper}{o:Oper}{d:Act}{K:Tf}{q:Yt}{r:Prop}(y:o.6=U)(s x:Operand)(t:TypeId)(B:o.2=.call { callee:=.builtin .append,args:=#[s,x],argTypes:=#[t,t] })(h:N)(e:TypeId)(i:TypeInfo)(z:Uj)(a bytes:N)(V:R_.underlying t=S (.slice e))(C:R_.info? e=S i)(F:i.8=S z)(T:i.3=a)(L:i.4=bytes)(M:Z z.cells=a)(P:0<a)(v:Uj)(n:N)(k:Wo)(W:d.eval s=v)(O_:Sx w h e a v n k)(j:Addr)(m c:N)(f:Wo)(X_:d.eval x=X (S j) m c)(L_:J f=m*a)(M_:∀l u,f[l]?=S u->E w (j.add l)=S u)(r_:∀u∈f,u.oneCell'=So)(D_:n+m<=maxLen)(H_:(n+m)*bytes<=140737488355328)(F_:h<=Z w.1)(q_:∀b g,Sx g h e a b (n+m) (k++f)->w.grownBy g v.ownBlock->(b=X U 0 0↔v=X U 0 0/\m=0)->(b.ownBlock=v.ownBlock\/b.ownBlock=S (Z w.1))->K (d.put o.1 b) g):
 if Region.wanted o (yielded p d.1)=So then Oper.wp R_ o d w K q else r:=by
 have W_:Region.wanted o (yielded p d.1)=So:=by simp[Region.wanted,y]
 rw[aU W_];let⟨b,g,P_,y_,A_,B_,C_⟩:=kI (P:=R_) w h t o.3 e i z a bytes V C F T L M P v n k O_ j m c f L_ M_ r_ D_ H_ F_;unfold Oper.wp execOp;simp only[B,resolve,invoke,builtin,lG,lH,jE,jN,eH,fZ,W,X_,P_];exact q_ b g y_ A_ B_ C_
theorem Xq(h:(R_.info? n).map (λi=>(i.8,i.3,i.4))=S (S a,m,k)):∃i,R_.info? n=S i/\i.8=S a/\i.3=m/\i.4=k:=by
 cases hi:R_.info? n with
 |none=>rw[hi]at h;cases h
 |some i=>
  rw[hi]at h;simp only[jY,Option.some.injEq,jC]at h;exact⟨i,R,h.1,h.2.1,h.2.2⟩
theorem Yf(w:Ub)(u:Uj)(b:N):∀j x,([u]:Wo)[j]?=S x->E (D w<|.cells #[u] b) ((⟨Z w.1,0,U⟩:Addr).add j)=S x:=λj x a=>by
 have ha:((A (Z w.1) 0):Addr).add j=(A (Z w.1) j):=by unfold Addr.add;split<;>simp_all
 rw[ha]
 match j,a with
 |0,a=>simpa using a
 |j+1,a=>cases a
def Ng(a:Wy):Wo:=a.flatMap λm=>[Si S6 m.1,Si S6 m.2]
theorem xO{m:Mv}{a:Wy}:Ng (m::a)=[H m.1,H m.2]++Ng a:=R
theorem nf{a b:Wy}:Ng (a++b)=Ng a++Ng b:=by simp[Ng]
theorem yh:∀a:Wy,J (Ng a)=J a*2
 |[]=>R
 |m::a=>by rw[xO,aQ,yh a];simp;omega
theorem rX:∀(a:Wy)(i:N)(h:i<J a),(Ng a)[i*2]?=S (H a[i].1)/\(Ng a)[i*2+1]?=S (H a[i].2)
 |[],i,h=>Sz h sP
 |m::a,0,_=>⟨R,R⟩
 |m::a,i+1,h=>by
  have:=rX a i SI;rw[xO];rw[show(i+1)*2=i*2+1+1 by omega];simpa using this
theorem ja:((A n 0):Addr).add m=(A n m):=by unfold Addr.add;split<;>simp_all
theorem Jj(h:Sx w n m k (Hl B g c) g y){u:Uj}(a:y[j]?=S u):E w (A B j)=S u:=by
 have:=h.cells (g:=B) R j u a;rw[ja]at this;exact this
theorem ol(h:Sx w n m k (Hl B g c) g y)(o:N):w.frozen? (A B o)=Sn:=by
 obtain⟨e2,_⟩|⟨g',cap,cur,e2,_,hh,_⟩:=h.2;·cases e2
 injection e2 with e3;injection e3 with e3;injection e3 with e4;subst e4;simp[World.frozen?,hh]
theorem Vc(h:Sx w n m k a B y):(a=X U 0 0/\B=0/\y=[])\/∃g c,a=X (S ⟨g,0,U⟩) B c/\(n<=g/\g<Z w.1)/\B<=c:=by
 obtain⟨e1,e2⟩|⟨g,cap,cur,e1,hb,hh,hc,_⟩:=h.2
 .refine bC ⟨e1,e2,iE ?_⟩;rw[h.1,e2,lC]
 exact aZ ⟨g,cap,e1,⟨hb,(aS.1 hh).1⟩,hc⟩
theorem m9{b:Wy}(h:Sx w n m 2 a k (Ng b)):∃e c,a=X e (J b) c/\k=J b/\J b<=c/\gj w n (Z w.1) e b:=by
 have f:=h.1;rw[yh]at f;have j:k=J b:=O;subst j;obtain⟨rfl,h0,_⟩|⟨g,c,rfl,hg,hc⟩:=Vc h
 .have:b=[]:=iE h0;subst this;exact⟨U,0,R,R,aA,λi d=>Sz d sP⟩
 refine⟨_,c,R,R,hc,λi d=>⟨g,0,R,hg,?_,?_⟩⟩;·rw[aV];exact Jj h (rX b i d).1
 rw[aV];exact Jj h (rX b i d).2
theorem RA:(prog.info? 158).map (λi=>(i.8,i.3,i.4))=S (S<|.agg #[H 0,H 0],2,16):=vZ
theorem sJ(w:Ub):Sx (D w<|.cells #[] 158) (Z w.1) 158 2 (X (S ⟨Z w.1,0,U⟩) 0 0) 0 (Ng []):=by
 have:=eI (base:=Z w.1) (e:=158) (size:=2) w #[] 0 sP sP R;simpa [Ng]using this
theorem ng(w:Ub):∀j u,([Si S6 t,Si S6 T]:Wo)[j]?=S u->E (D w<|.cells #[Si S6 t,Si S6 T] n) ((⟨Z w.1,0,U⟩:Addr).add j)=S u:=λj u a=>by
 rw[ja]
 match j,a with
 |0,a=>simpa using a
 |1,a=>simpa using a
 |j+2,a=>cases a
theorem IY(c:N){a:Wy}(ha:Q (gj w k B p a))(s:Q (n=J a))(Z_:n<=64)(T:m<n)(R_:B<=Z w.1):
 Sk prog 182 #[X p n c,H m] w λl t=>∃v,l=Rt v/\Sw (Z w.1) w t/\Sx t (Z w.1) 158 2 v (J (a.eraseIdx m)) (Ng<|a.eraseIdx m):=by
 let⟨M,F,x,K,L⟩:=fX RA
 go_in
 go_wp2
 go_loopw [5,6] (λv u wr=>∃j:N,j<=n/\u=H j/\Q (Sw (Z w.1) w wr)/\Q (Sx wr (Z w.1) 158 2 v (J ((a.take j).eraseIdx m)) (Ng<|(a.take j).eraseIdx m))) λ_ u _=>n-(intOf u).toNat
 case atStart=>exact⟨0,aN,R,Y<|Xb Rf _,Y<|by rw[lK];exact sJ w⟩
 obtain⟨j,U_,rfl,b,d⟩:=hrel;have aa:=b.4;by_cases Y_:j<n
 .have o:j<J a:=oN s.o;obtain⟨Q_,ab,rfl,S_,h,i⟩:=ha j o;have C_:=G (XU b O) h;have e1:=G (XU b O) i;have f:=Y<|bN o;have g:Q (J ((a.take j).eraseIdx m)<=64):=Y (aJ (List.length_eraseIdx_le _ _) SB);by_cases z:j=m
  .have e:Q ((a.take<|j+1).eraseIdx m=(a.take j).eraseIdx m):=Y (by
    rw[f.o,List.eraseIdx_append_of_length_le SB,List.eraseIdx_of_length_le (l:=a.take j) SB];have:m-J (a.take j)=0:=by simp;omega
    rw[this];simp)
   subst z;go_wp2;exact⟨⟨j+1,O,gM,b,Y<|by rw[e.o];exact d⟩,SA⟩
  have V_:¬((j:I)=(m:I)):=O
  have e:Q ((a.take<|j+1).eraseIdx m=(a.take j).eraseIdx m++[a[j]]):=Y (by
   rw[f.o];by_cases W_:m<j;·rw[List.eraseIdx_append_of_lt_length<|by simp;omega]
   rw[List.eraseIdx_append_of_length_le SB,List.eraseIdx_of_length_le (l:=a.take j) SB]
   rw[List.eraseIdx_of_length_le<|by simp;omega])
  generalize H_:a[j]=C at*;let⟨V,W⟩:=C;dsimp only at*;generalize (a.take j).eraseIdx m=ys at*;go_wp2_with (at_builtin;refine bT _ R _ _ 156 R (Z w.1) 158 M (Sa #[H 0,H 0]) 2 16 underlying156 F x K L R vY _ _ _ R (d.alloc _) (A (Z wr.1) 0) 1 1 [H V,H W] R R ?c1 ?c2 ?c3 ?c4 ?c5 ?_)
  case c1=>exact ng _
  case c2=>intro u r;simp at r;obtain rfl|rfl:=r<;>rfl
  case c3=>have:=g.o;unfold maxLen;omega
  case c4=>have:=g.o;omega
  case c5=>simp;omega
  intro v1 P q l_ I_ E_;have y:Q (Sx P (Z w.1) 158 2 v1 (J ((a.take<|j+1).eraseIdx m)) (Ng<|(a.take<|j+1).eraseIdx m)):=Y (by
   rw[e.o,nf,aQ];exact q)
  have x_:=Y (Xy ((b).alloc O _) l_ (d.alloc _) aA SB);go_wp2;exact⟨⟨j+1,O,gM,x_,y⟩,SA⟩
 have X_:j=n:=O;have z_:=Y (by have:=d.o;rwa[aW<|oN s.o]at this);go_wp2;go_ret;exact⟨_,R,b,z_⟩
theorem TW(h:Sx w n m k a g y)(b:w.grownBy v (S B))(c:B<n):Sx v n m k a g y :=
 h.kept b (by
  cases e:a.ownBlock with
  |none=>exact bC R
  |some d=>exact aZ λe2=>by cases e2;have:=(h.lt _ e).1;omega)
theorem pj(h:Sx w n m k (Hl B g c) g y)(j:v.1[B]?=w.1[B]?):Sx v n m k (Hl B g c) g y:=by
 obtain⟨a,h|⟨o,l,b,e,f,i,d⟩⟩:=h;·exact⟨a,bC h⟩
 cases e;exact⟨a,aZ ⟨B,c,b,R,f,G j i,d⟩⟩
theorem qO(h:Sx w n m k (X (S ⟨B,0,U⟩) g c) g y)(u:Uj):Sx (Se w ⟨B,i,U⟩ u) n m k (X (S ⟨B,0,U⟩) g c) g (y.set i u):=by
 obtain⟨l,b|⟨s,r,a,e,f,j,d,o,p,q⟩⟩:=h;·cases b.1
 cases e;refine⟨by rw[bL];exact l,aZ ⟨B,c,a.setIfInBounds i u,R,f,?_,d,o,by rw[jS];exact p,?_⟩⟩;·exact heap_setCell_same w B i a m u j
 rw[Array.toList_setIfInBounds,List.take_set,q]
theorem Xm(h:Sx w n m k a B y)(b:0<B):∃g c,a=X (S ⟨g,0,U⟩) B c/\(n<=g/\g<Z w.1)/\B<=c:=by
 obtain⟨_,m,_⟩|h:=Vc h;·omega
 exact h
theorem Zv(h:0<=t):∃m:N,t=m:=⟨t.toNat,O⟩
def Je(L:Wa):Wo:=L.map λ(x:N)=>Si S6 (x:I)
theorem VP:Je (s++[n])=Je s++[H n]:=by simp[Je]
theorem UY(w:Ub)(b:N):Xf (D w<|.cells #[Si S6 (b:I)] n) (Z w.1) (Z w.1+1) (S ⟨Z w.1,0,U⟩) ([b].map Int.ofNat):=λi a=>by
 have:i=0:=by simpa using a
 subst this;exact⟨_,0,R,⟨aA,iJ⟩,sP⟩
theorem KJ(t:Yj):J t.tg<=2:=by
 unfold Yj.tg;split;·simp
 split<;>simp
structure YW(w:Ub)(bS gS BL K:N)(ab:Uy)(nb cb:N)(W:Wk)(v:Uj)(L:Wa):Prop where
 c0:E w ⟨bS,0,U⟩=S (X ab nb cb)
 c1:E w ⟨bS,1,U⟩=S (X (S ⟨gS,0,U⟩) K K)
 c2:E w ⟨bS,2,U⟩=S v
 thaw:∀q,w.frozen? ⟨bS,q,U⟩=Sn
 row:w.rowIs gS 203 K λi=>Si .u64 (W i)
 own:Sx w BL 2 1 v (J L) (Je L)
 lb:bS<BL
 lg:gS<BL
 ne:bS≠gS
 sz:BL<=Z w.1
structure Vh(w w':Ub)(bS gS:N)(v v':Uj):Prop where
 os:w'.4=w.4
 tape:w'.2=w.2
 output:w'.5=w.5
 size:Z w.1<=Z w'.1
 block:∀k,k<Z w.1->k≠bS->k≠gS->S k≠v.ownBlock->w'.1[k]?=w.1[k]?
 own:v'.ownBlock=v.ownBlock\/∀k,v'.ownBlock=S k->Z w.1<=k
theorem Vh.refl(w:Ub)(a b:N)(v:Uj):Vh w w a b v v:=⟨R,R,R,aA,λ_ _ _ _ _=>R,bC R⟩
theorem Vh.trans{v1 v2:Uj}(h:Vh w v n m a v1)(k:Vh v u n m v1 v2):Vh w u n m a v2:=by
 refine⟨G k.1 h.1,G k.2 h.2,G k.3 h.3,aJ h.4 k.4,λj d f g i=>?_,?_⟩
 .refine G (k.5 j (aX d h.4) f g λe=>?_) (h.5 j d f g i);obtain b|b:=h.6;·exact i<|by rw[e,b]
  have:=b j e.symm;omega
 obtain c|c:=k.6
 .rcases h.6 with b|b;·exact bC<|G c b
  exact aZ λj e=>b j<|by rw[<-c];exact e
 exact aZ λj e=>aJ h.4<|c j e
theorem Vh.of_below(h:Sw (Z w.1) w v):Vh w v n m a a:=⟨h.1,h.2,h.3,h.4,λk b _ _ _=>h.5 k b,bC R⟩
theorem Vh.of_grown(h:w.grownBy v (S m)):Vh w v n m a a:=⟨h.1,h.2,h.3,h.4,λk b _ c _=>h.5 k b λe=>c (by injection e),bC R⟩
theorem YW.below(h:YW w n m k B p g i f a s)(b:Sw (Z w.1) w v):YW v n m k B p g i f a s:=by
 have l:=h.sz;have d:=b.5 n<|oN h.7;have c:∀q,E v (A n q)=E w (A n q):=λq=>bZ d;refine⟨G (c 0) h.1,G (c 1) h.2,G (c 2) h.3,λq=>G (bJ d) (h.4 q),h.5.of_block<|b.5 m (oN h.8),?_,h.7,h.8,h.9,aJ l b.4⟩;refine h.6.kept (row:=U) ⟨b.1,b.2,b.3,b.4,λj e _=>b.5 j e⟩ ?_;cases a.ownBlock with
 |none=>exact bC R
 |some j=>exact aZ sP
theorem YW.seen(h:YW w n m k B p g i f a s)(c:w.grownBy v (S m))(j:v.rowIs m 203 B λo=>Si .u64 (F o)):YW v n m k B p g i F a s:=by
 have l:=h.sz;have d:=c.5 n (oN h.7) (λe=>h.9<|by injection e);have b:∀q,E v (A n q)=E w (A n q):=λq=>bZ d;exact⟨G (b 0) h.1,G (b 1) h.2,G (b 2) h.3,λq=>G (bJ d) (h.4 q),j,TW h.6 c h.8,h.7,h.8,h.9,aJ l c.4⟩
theorem YW.push{r:Obj}(h:YW w n m k B p g i f a s)(c:(D w r).grownBy v a.ownBlock)(M:Sx v k 2 1 A_ (J s+1) (Je s++[Si S6 (j:I)]))(F:A_.ownBlock=a.ownBlock\/A_.ownBlock=S (Z w.1+1)):
 YW (Se v ⟨n,2,U⟩ A_) n m k B p g i f A_ (s++[j])/\Vh w (Se v ⟨n,2,U⟩ A_) n m a A_/\E v ⟨n,2,U⟩=S a/\v.frozen? ⟨n,2,U⟩=Sn:=by
 have L:=h.sz;have o:=h.7;have y:=h.8;have K:Z (D w r).1=Z w.1+1:=aO _ _;have W:=c.4;have z:∀b,b<k->S b≠a.ownBlock:=λb x e=>by have:=(h.6.lt b e.symm).1;omega
 have ha:∀b,b<Z w.1->(D w r).1[b]?=w.1[b]?:=λb x=>Below.heap_alloc _ _ _ x;have u:=G (c.5 n O<|z _ o) (ha _ O);have P:=G (c.5 m O<|z _ y) (ha _ O);have d:∀q,E v (A n q)=E w (A n q):=λq=>bZ u;have t:=λq=>G (bJ u) (h.4 q);refine⟨⟨G (XL _ _ O _) (G (d 0) h.1),G (XL _ _ O _) (G (d 1) h.2),fQ _ _ _<|G (d 2) h.3,λq=>by rw[eX];exact t q,(h.5.of_block P).setOther (λe=>h.9 e.symm) _,?_,o,y,h.9,SF⟩,⟨?_,?_,?_,SF,λb C T I_ V=>?_,?_⟩,G (d 2) h.3,t 2⟩
 .rw[VP,aQ];exact ownsRow_setCell_below M o _
 .exact c.1
 .exact c.2
 .exact c.3
 .rw[Below.heap_setCell _ _ _ _ T];exact G (c.5 b O V) (ha b C)
 obtain e|e:=F;·exact bC e
 exact aZ λb l=>by rw[e]at l;injection l with l;omega
theorem Vh.blks(d:Vh w v n m a A_)(h:YW w n m k B p g i f a s)(q:Xp w j c p x)(l:¬(j<=n/\n<c))(o:¬(j<=m/\m<c))(r:c<=k):Xp v j c p x:=by
 have t:=h.sz;exact q.keepS λb u y=>d.5 b O (λe=>l O) (λe=>o O) λe=>by have:=(h.6.lt b e.symm).1;omega
theorem VY(g d u:N)(K:N)(M:Uy)(R_ B:N)(bd:Q (m=J x))(hn:m<=1000)(hK:m<=64*n)(ck:n<=100)(S_:¬(R_<=g/\g<B))(T_:¬(R_<=d/\d<B))(U_:B<=u)(hT:Q (∀aa∈x,∀t∈aa.3.tg,0<=t/\t<m)):
 ∀(c b:N)(W:Wk)(v:Uj)(L:Wa)(w:Ub),Q (YW w g d u n M m K W v L)->Q (Xp w R_ B M x)->b<m->Q (XB W m<=c)->Q (XA W)->J L+XB W m<=m ->
 Sk prog 59 #[Hn g,H b] w λi w'=>i=Rt (St #[])/\∃r,Vh w w' g d v r/\YW w' g d u n M m K (C9 (X8 x) c b (W,L)).1 r (C9 (X8 x) c b (W,L)).2:=by
 let⟨i0,b6,cc,cd,ce⟩:=Xq RH;intro c
 induction c with
 |zero=>
  intro b W v L w f J_ F Q_ z hL;have HH:Q (Xh W b=So):=Y<|T8 (oN Q_.o) F;have h:=Y<|Jm d n b W w z (Y f.5) O O;rw[HH.o]at h;have c1:=f.2
  go_in
  go_wp2_with fail
  refine h.mono ?_;rintro i e⟨rfl,j⟩;have k:=Y<|f.below j;have y:Q (Vh w e g d v v):=Y<|Vh.of_below j;clear j h c1;go_wp2_with fail
  refine cC (v:=St #[]) (by simp[results,results59,go_sem]) R ?_;exact⟨R,v,y,k⟩
 |succ c ih=>
  intro b W v L w f J_ F Q_ z hL;have IH:=Y ih;clear ih;cases hh:Xh W b with
  |true=>
   have ap:=Y hh;clear hh;have h:=Y<|Jm d n b W w z (Y f.5) O O;rw[ap.o]at h;have c1:=f.2
   go_in
   go_wp2_with fail
   refine h.mono ?_;rintro i e⟨rfl,j⟩;have k:=Y<|f.below j;have y:Q (Vh w e g d v v):=Y<|Vh.of_below j;clear j h c1;go_wp2_with fail
   refine cC (v:=St #[]) (by simp[results,results59,go_sem]) R ?_;rw[Vd (s:=(W,L)) ap.o];exact⟨R,v,y,k⟩
  |false=>
   have O_:=Y hh;clear hh;have c0:=f.1;have c1:=f.2;have c2:=f.3;have h:=Y<|Jm d n b W w z (Y f.5) O O;rw[O_.o]at h
   go_in
   go_wp2_with fail
   refine h.mono ?_;rintro i e⟨rfl,j⟩;have k:=Y<|f.below j;have y:Q (Vh w e g d v v):=Y<|Vh.of_below j;clear j h c0 c1 c2;have c0:=k.1;have c1:=k.2;go_wp2_with fail
   have P_:=Y<|k.below (Xb Rf (Sc #[H b] 187));have aj:Q (Vh e (D e<|.cells #[H b] 187) g d v v):=Y<|Vh.of_below (Xb Rf _);have aq:Q (Xf (D e<|.cells #[H b] 187) (Z e.1) (Z e.1+1) (S ⟨Z e.1,0,U⟩) ([b].map Int.ofNat)):=Y<|UY e b;have be:Z e.1+1<=Z (D e<|.cells #[H b] 187).1:=sP;have b5:d<Z e.1:=oP k.8 k.sz
   generalize D e _=wa at*;have bp:Q (∀t∈[b],t<64*n):=Y (λt o=>by
    have:t=b:=by simpa using o
    omega)
   refine(Tz d n n 1 1 W _ [b] (Z e.1) (Z e.1+1) wa aq (Y R) O bp O z (Y<|Cp.of_row P_.5) be O).mono ?_;rintro i P⟨rfl,V_,ba⟩;have l:Q (YW P g d u n M m K (YH W b) v L):=Y<|P_.seen V_ ba.to_row;have M_:=Y<|(y.trans aj).trans (Vh.of_grown V_);have ad:=Y<|M_.blks f J_ S_ T_ U_;have a2:=Y<|Tb (W:=W) (n:=m) F O_;have K_:=Y<|nY (tg:=X8 x) (m:=c) (s:=(W,L)) O_;clear V_ ba P_ aj aq y k be b5 c0 c1;have A_:b<J x:=oN bd.o;obtain⟨bb,cg,rfl,cm,pa,pc,ia,ic,-,-,⟨t0,t1,t2,t3⟩,-,-⟩:=ad b A_;have c0:=l.1;have a1:=Y<|hT.o _ (aH A_);rw[Km A_]at K_;dsimp only at K_;generalize x[b].3=tm at*;go_wp2_with fail
   refine(J4 tm P).mono ?_;rintro i w3⟨ci,cj,rfl,T,a7⟩;have ar:=Y<|l.below T;have af:=Y<|M_.trans (Vh.of_below T);have bl:=Y a7;have bf:=Y<|af.blks f J_ S_ T_ U_;have ch:=Y T.4;have bm:=Y λcf i=>(l.6.lt cf i).2;have ao:Q (d<Z P.1/\g<Z P.1):=Y ⟨oP l.8 l.sz,oP l.7 l.sz⟩;clear T a7 t0 t1 t2 t3 c0 ad l M_;have cr:=KJ tm;generalize ca:tm.tg=a at*;clear ca;have bv:Q (∀t∈a.map Int.toNat,t<m):=Y (λt o=>by
    obtain⟨ac,Z_,rfl⟩:=aY.1 o;have:=a1 ac Z_;omega)
   have br:Q (∀b,b<m->∀t∈X8 x b,t<m):=Y (λb F t o=>by
    have A_:b<J x:=oN bd.o
    rw[Km A_]at o;obtain⟨ac,Z_,rfl⟩:=aY.1 o;have:=hT _ (aH A_) ac Z_;omega)
   have b0:=Y<|oV z b;have b3:XB (YH W b) m<=c:=oP Q_.o a2.o;have cl:J L+XB (YH W b) m+1<=m:=oN a2.o;go_wp2
   go_loopw [29] (λV wr=>∃q:N,q<=J a/\V=H q/\∃r,Q (Vh w3 wr g d v r)/\Q (YW wr g d u n (S ⟨bb,cg,U⟩) m K (((a.map Int.toNat).take q).foldl (λs t=>C9 (X8 x) c t s) (YH W b,L)).1 r (((a.map Int.toNat).take q).foldl (λs t=>C9 (X8 x) c t s) (YH W b,L)).2)) λV _=>J a-(intOf V).toNat
   case atStart=>exact⟨0,aN,R,v,Y<|Vh.refl _ _ _ _,ar⟩
   obtain⟨q,hq,rfl,r,C,p⟩:=hrel;have N_:Q (J (((a.map Int.toNat).take q).foldl (λs t=>C9 (X8 x) c t s) (YH W b,L)).2+XB (((a.map Int.toNat).take q).foldl (λs t=>C9 (X8 x) c t s) (YH W b,L)).1 m<=J L+XB (YH W b) m):=Y (DF (X8 x) br c _ λt o=>bv t<|iO o);by_cases X_:q<J a
   .obtain⟨bt,ot,rfl,b4,a3⟩:=bl q X_;have et:=G (Xc (C.5 bt b4.2 (oN ao.o) (oN ao.o) λi=>by have:=bm bt i.symm;omega)) a3;have b8:=a1 a[q] (aH X_);have a0:Q ((a.map Int.toNat).take (q+1)=(a.map Int.toNat).take q++[a[q].toNat]):=Y (by rw[bN (by simpa using X_),cM]);have b1:=Y<|Ei (X8 x) c ((a.map Int.toNat).take q) (YH W b,L) b0;have bh:=Y<|C.blks ar bf S_ T_ U_;have bx:Q (XB (((a.map Int.toNat).take q).foldl (λs t=>C9 (X8 x) c t s) (YH W b,L)).1 m<=c):=Y (aJ (JY m λaa hx=>Ue (X8 x) c _ (YH W b,L) aa hx) b3);have al:Q (((a.map Int.toNat).take (q+1)).foldl (λs t=>C9 (X8 x) c t s) (YH W b,L)=C9 (X8 x) c a[q].toNat (((a.map Int.toNat).take q).foldl (λs t=>C9 (X8 x) c t s) (YH W b,L))):=Y (by rw[a0.o,dT];rfl);clear a3 a0;generalize a[q]=tq at*;obtain⟨tn,rfl⟩:=Zv b8.1;rw[dM]at al;have HC:=Y<|IH.o tn _ r _ wr p bh O bx b1 (oN N_.o);generalize ((a.map Int.toNat).take q).foldl (λs t=>C9 (X8 x) c t s) (YH W b,L)=sq at*;let⟨Wq,Lq⟩:=sq;dsimp only at*;go_wp2_with fail
    refine HC.mono ?_;rintro i w5⟨rfl,v5,a5,bc⟩;have bi:=Y<|C.trans a5;have bq:=Y bc;clear a5 bc HC;go_wp2;exact⟨⟨q+1,O,gM,v5,bi,Y<|by rw[al.o];exact bq⟩,SA⟩
   have cq:q=J a:=O;have az:Q ((a.map Int.toNat).take q=a.map Int.toNat):=Y (aW<|by simp;omega);rw[az.o]at p N_;generalize (a.map Int.toNat).foldl (λs t=>C9 (X8 x) c t s) (YH W b,L)=sq at*;let⟨Wq,Lq⟩:=sq;dsimp only at*;clear az;have c2:=p.3;have zz:=p.4 2;have cn:J Lq<=1000:=oN N_.o;have cs:=p.sz;go_wp2_with (at_builtin;refine bT _ R _ _ 35 R u 2 i0 (H 0) 1 8 underlying35 b6 cc cd ce R vY _ _ _ R (p.6.alloc _) (A (Z wr.1) 0) 1 1 [H b] R R ?c1 ?c2 ?c3 ?c4 ?c5 ?_)
   case c1=>exact Yf _ _ _
   case c2=>intro V hu;simp at hu;subst hu;rfl
   case c3=>unfold maxLen;omega
   case c4=>omega
   case c5=>simp;omega
   intro v8 w8 Y_ a6 b7 a4;let⟨a8,a9,co,cp⟩:=p.push a6 Y_ a4;obtain⟨g8,k8,rfl,-,-⟩:=Xm Y_ O;have bn:=Y a8;have bo:=Y a9;clear a8 a9 Y_ a6 b7 a4;go_wp2
   go_end0
   exact⟨R,_,(af.trans C).trans bo,by rw[K_.o];exact bn⟩
theorem TS{T:Type}{C:T->Uj}{f:N->T}(h:w.rowIs n m k λz=>C<|f z)(r:N)(v:T):(Se w ⟨n,r,U⟩ (C v)).rowIs n m k (λz=>C<|if z=r then v else f z) :=
 (h.set r<|C v).congr (λz _=>by by_cases e:z=r<;>simp[e])
theorem UC{T:Type}{C:T->Uj}{f a:N->T}(h:w.rowIs n m k λz=>C<|f z)(e:∀z,z<k->f z=a z):w.rowIs n m k (λz=>C<|a z):=h.congr λz b=>by rw[e z b]
theorem Q7:(prog.info? 4).map (λi=>(i.8,i.3,i.4))=S (S<|.bool Sn,1,1):=vZ
structure cy(t:N)(w:Ub)(G_ n K:N)(gs cp:Wk)(Ws:Vp):Prop where
 row:w.rowIs G_ t n λi=>X (S ⟨gs i,0,U⟩) K (cp i)
 set:∀i,i<n->Cp w (gs i) K (cp i) (Ws i)
 inj:∀i j,i<n->j<n->gs i=gs j->i=j
 o:∀i,i<n->gs i≠G_
abbrev Ye(w:Ub)(b n K:N)(a:Wk):=cy 110 w b n K a λ_=>K
abbrev XK:=cy 113
theorem Q8:(prog.info? 110).map (λi=>(i.8,i.3,i.4))=S (S<|.agg #[Hq],1,24):=vZ
theorem Q9:(prog.info? 113).map (λi=>(i.8,i.3,i.4))=S (S<|.agg #[Hq],1,24):=vZ
theorem J9{P:Yh}(t e:TypeId)(z:Uj)(a bytes:N)(g:P.underlying t=S (.slice e))(d:(P.info? e).map (λi=>(i.8,i.3,i.4))=S (S z,a,bytes))(n:N)(l:bytes*n<=281474976710656)(k:n<=9223372036854775807)(w:Ub):
 (Instr.makeSlice t (Si S6 (n:I)) (Si S6 (n:I))).run P w=.ok (X (S ⟨Z w.1,0,U⟩) n n) (D w<|.cells (madeCells z.cells<|n*a) e):=by
 let⟨i,c,hq⟩:=Option.map_eq_some_iff.1 d;simp only[jC]at hq;let⟨j,f,b⟩:=hq;have h:=run_make (P:=P) w t e i z g c j S6 S6 (n:I) (n:I) O (Int.le_refl _) (by rw[b,<-Int.natCast_mul];omega) O;simp only[dM,f]at h;exact h
structure o7(t:N)(w wr:Ub)(G_ n K q:N)(gs:Wk):Prop where
 low:Sw (Z w.1) w wr
 base:Z w.1<=G_
 row:wr.rowIs G_ t n λi=>if i<q then X (S ⟨gs i,0,U⟩) K K else X U 0 0
 set:∀i,i<q->wr.rowIs (gs i) 203 K λ_=>Si .u64 ((0:N):I)
 inj:∀i j,i<q->j<q->gs i=gs j->i=j
 up:∀i,i<q->G_<gs i
theorem o7.next{wr:Ub}(h:o7 n w wr m k B g f)(hq:g<k)(c:Sw (Z wr.1) wr v)(q:Z wr.1<=i)(p:v.rowIs i 203 B λ_=>Si .u64 ((0:N):I)):
 o7 n w (Se v ⟨m,g,U⟩ (X (S ⟨i,0,U⟩) B B)) m k B (g+1) (λa=>if a=g then i else f a)/\E v ⟨m,g,U⟩=S (X U 0 0)/\v.frozen? ⟨m,g,U⟩=Sn:=by
 have o:=h.3.lt;have l:=h.3.of_block<|c.5 m o;have d:=λa b=>(h.4 a b).lt;refine⟨⟨(h.1.trans<|c.mono h.1.4).setCell h.2 _,h.2,(l.set g _).congr λa _=>?_,λa b=>?_,λa j b r e=>?_,λa b=>?_⟩,G (l.cell hq) sP,l.frozen g⟩
 .by_cases e:a=g;·subst e;simp
  rw[aM e];by_cases e2:a<g;·rw[aU e2,aU O];simp[e]
  rw[aM e2,aM O]
 .by_cases e:a=g;·rw[aU e];exact p.setOther (by show i≠m;omega) _
  rw[aM e];have:=h.6 a O;exact((h.4 a O).of_block (c.5 _<|d a O)).setOther (by show f a≠m;omega) _
 .by_cases e1:a=g
  .by_cases e2:j=g;·rw[e1,e2]
   rw[aU e1,aM e2]at e;have:=d j O;omega
  by_cases e2:j=g
  .rw[aM e1,aU e2]at e;have:=d a O;omega
  rw[aM e1,aM e2]at e;exact h.5 a j O O e
 by_cases e:a=g
 .show m<if a=g then i else f a
  rw[aU e];omega
 show m<if a=g then i else f a
 rw[aM e];exact h.6 a O
theorem P1(h j t e:N)(f:(h=116/\j=122/\t=113/\e=114)\/h=224/\j=111/\t=110/\e=317)(n d:N)(w:Ub)(F:n<=1000)(C:d<=60000):
 Sk prog h #[H n,H d] w λg r=>∃L c,g=Rt (Hl L n n)/\Z w.1<=L/\Sw (Z w.1) w r/\cy t r L n ((d+63)/64) c (λ_=>(d+63)/64) (λ_ _=>0)/\(∀i,i<n->Z w.1<=c i):=by
 have o:∀(_:e=e),_:=λ_=>J9 (P:=prog) e t (Sa #[Hq]) 1 24 (by obtain⟨_,_,rfl,rfl⟩|⟨_,_,rfl,rfl⟩:=f;exact underlying114;exact underlying317) (by obtain⟨_,_,rfl,rfl⟩|⟨_,_,rfl,rfl⟩:=f;exact Q9;exact Q8) n O O;replace o:=o R;have s:=Y<|dG w Hq n t;have v:=Y (λW=>Ps j (by obtain k|k:=f<;>simp[k.2.1]) d W C);generalize (d+63)/64=K at*;obtain⟨rfl,rfl,rfl,rfl⟩|⟨rfl,rfl,rfl,rfl⟩:=f
 go_in
 rotate_left
 go_in
 rotate_left
 all_goals (
  go_wp2
  go_loopw [11] (λu wr=>∃q:N,q<=n/\u=H q/\∃c,Q<|o7 _ w wr (Z w.1) n K q c) λu _=>n-(intOf u).toNat
  case atStart=>exact⟨0,aN,R,λ_=>0,Y ⟨Xb Rf _,aA,by simpa [Value.cells]using s.o,λi a=>Sz a O,λi P a=>Sz a O,λi a=>Sz a O⟩⟩
  case round=>
   obtain⟨q,hq,rfl,c,b⟩:=hrel;by_cases M:q<n
   .go_wp2_with fail
    refine(v wr).mono ?_;rintro g T⟨V,rfl,z,m,p⟩;have y:=b.next M m z p;let⟨l,E_,H_⟩:=y;have x:=Y l;go_wp2;exact⟨⟨q+1,O,gM,_,x⟩,SA⟩
   have B:q=n:=O;subst B;go_wp2;go_ret
   refine⟨_,c,R,aA,b.1,⟨b.3.congr λi a=>by rw[aU a],λi a=>Cp.of_row<|b.4 i a,b.5,λi a g=>by have:=b.6 i a;omega⟩,λi a=>by have:=b.6 i a;omega⟩)
abbrev Th:=@P1 224 111 110 317<|aZ ⟨R,R,R,R⟩
abbrev Ti:=@P1 116 122 113 114<|bC ⟨R,R,R,R⟩
def oe(L a:Wc)(i:N):Prop:=J a=J L/\∀k (h:k<J L),a[k]?=S (if k<i\/J L<=k+i then L[J L-1-k]else L[k])
theorem DR(L:Wc):oe L L 0:=⟨R,λk h=>by rw[aM O,aC h]⟩
theorem Dw(h:oe l L n)(b:J l<=2*n+1):L=l.reverse:=by
 refine iG λk=>?_;by_cases a:k<J l
 .rw[h.2 k a,List.getElem?_reverse a,aC O];split;·rfl
  have e:J l-1-k=k:=O;simp only[e]
 rw[dK (by rw[h.1];omega),dK<|by rw[jQ];omega]
theorem DC(h:oe l L n)(d:2*n+1<J l)(a:n<J L)(b:J l-1-n<J L):oe l ((L.set n L[J l-1-n]).set (J l-1-n) L[n]) (n+1):=by
 refine⟨by rw[bL,bL];exact h.1,λk c=>?_⟩;have e1:=h.2 n O;have e2:=h.2 (J l-1-n) O;rw[aC a,aM O]at e1;rw[aC b,aM O]at e2;injection e1 with e1;injection e2 with e2;rw[kG,bL];by_cases c1:J l-1-n=k
 .subst c1;rw[aU R,aU b,aU O,e1];have e:J l-1-(J l-1-n)=n:=O;simp only[e]
 rw[aM c1,kG];by_cases c2:n=k
 .subst c2;rw[aU R,aU a,aU O,e2]
 rw[aM c2,h.2 k c];by_cases c3:k<n\/J l<=k+n;·rw[aU c3,aU O]
 rw[aM c3,aM O]
theorem TM(W:m<=1000000)(t:Q (m=J l))(K:Q (Sx w k 2 1 (Hl n m c) m (l.map<|Value.int S6))):
 Sk prog 165 #[Hl n m c] w λe x=>e=Rt (St #[])/\w.grownBy x (S n)/\Sx x k 2 1 (Hl n m c) m (l.reverse.map<|Value.int S6):=by
 go_in
 go_wp2
 go_loopw [2,3] (λu v wr=>∃(i:N)(a:Wc),u=H i/\v=H ((m:I)-1-i)/\2*i<=m/\Q (oe l a i)/\Q (w.grownBy wr<|some n)/\Q (Sx wr k 2 1 (Hl n m c) m (a.map<|Value.int S6))) λu _ _=>m-(intOf u).toNat
 case atStart=>exact⟨0,l,R,gM,O,Y<|DR l,Y ⟨R,R,R,aA,λ_ _ _=>R⟩,K⟩
 obtain⟨i,a,rfl,rfl,J_,d,h,b⟩:=hrel;by_cases N_:2*i+1<m
 .have C:=t.o;have M:=d.1;let⟨j,f⟩:∃j:N,(m:I)-1-i=j:=⟨m-1-i,O⟩;have g:j=J l-1-i:=O;have q:i<J a:=O;have P:J l-1-i<J a:=O;have B:j<J a:=O;have p:=Y<|DC d O q P;have e1:=Jj b (j:=i) (u:=H a[i]) (by simp[q]);have e2:=Jj b (j:=j) (u:=H a[j]) (by simp[B]);have P_:=ol b;have o:Q (a[J l-1-i]=a[j]):=Y (by simp only[g]);rw[o.o,<-g]at p;have K_:i<j:=O;have M_:j<m:=O;have L:i<m:=O;have r:(j:I)-1=(m:I)-1-(i+1:N):=O;have z:=Y r;have I_:∀v,E (Se wr (A n i) v) (A n j)=S (H a[j]):=λv=>G (XL _ _ O _) e2;clear C M g r o;rw[f];generalize a[i]=T at*;generalize a[j]=V at*;go_wp2;go_region;go_wp2;have F:wr.grownBy (Se (Se wr (A n i) (H V)) (A n j) (H T)).drew (S n):=⟨R,R,R,by simp[World.setCell,World.drew],λQ_ _ s=>G (Below.heap_setCell _ _ _ _ λe=>s<|by rw[e]) (Below.heap_setCell _ _ _ _ λe=>s<|by rw[e])⟩;refine⟨⟨i+1,_,gM,by rw[z.o],O,p,Y (h.andThen F λj f=>by cases f;exact aZ R),Y ?_⟩,SA⟩;rw[mN,mN];exact qO (qO b _) _
 have y:=Y<|Dw d (oN t.o);go_wp2
 go_end0
 exact⟨R,h,by rw[<-y.o];exact b⟩
theorem Aq(t:Q (Xf w B g (S ⟨n,m,U⟩) l))(u:Q (k=J l))(C:k<=1000000000)(r:g<=Z w.1):
 Sk prog 164 #[Hm n m k c] w λq i=>∃v,q=Rt v/\Sw (Z w.1) w i/\v≠Hq/\Sx i (Z w.1) 2 1 v (J l) (l.map<|Value.int S6):=by
 let⟨F,s,x,y,z⟩:=fX RH;have M:∀(w:Ub)(a:Uy)(k c d b:N),(binOp .eql 35 (X a k c) (X U d b)).run prog w=.ok (Sb a.isNone) w:=λw a k c d b=>Lib.run_eql_slice_nil w _ _ a k c d b underlying35
 go_in
 go_wp2_with (at_builtin;refine nG R λK hK=>JD _ _ 35 R (Z w.1) 2 F underlying35 s x y z (Hl (Z w.1) 0 0) [] R (by simpa using World.ownsRow_lit (base:=Z w.1) (e:=2) (size:=1) w #[] 0 sP sP R) sP (S ⟨n,m,U⟩) k c l B g R u (t.keep<|(Xb (Below.refl (Z w.1) w) _).mono r) SB sP ?_)
 intro v1 P h e f;have j:=Y (e.below (by simpa using World.ownsRow_lit (base:=Z w.1) (e:=2) (size:=1) w #[] 0 sP sP R:(w.alloc<|.cells #[] 2).ownsRow w.heap.size 2 1 (Hl w.heap.size 0 0) 0 []) (Xb Rf _) sP);have p:=Y h;have o:=Y f;refine hK _ _ ?_;go_wp2;go_ret;exact⟨_,R,j,o,p⟩
def vL(a b:Ub):Prop:=a=b
theorem Bb(n:N)(w:Ub)(o:n<=1000000):
 Sk prog 193 #[Hq,H n] w λi f=>∃v,i=Rt v/\Sw (Z w.1) w f/\(0<n->v≠Hq)/\Sx f (Z w.1) 2 1 v 0 []:=by
 let⟨e,l,m,p,d⟩:=fX RH;by_cases j:n=0
 .subst j
  go_in
  go_wp2;go_ret;exact⟨_,R,Rf,λh=>Sz h O,dA⟩
 have c:∀b,(Builtin.append_ #[35,3] b #[Hq,H n]).run prog w =
  .ok (Hl (Z w.1) (0+n) (grownCap w (0+n) 0 2)) (D w.drew<|.cells (([]:Wo).toArray++Builtin.zeroCells (H 0).cells n++Builtin.zeroCells (H 0).cells (grownCap w (0+n) 0 2 - (0+n))) 2):=λb=>
  Lib.run_append_grow_zeros w 35 3 b 2 e (H 0) S6 S6 underlying35 underlying3 l m U 0 0 [] (run_firstCells_none w.drew e.3 0 0 0) n O O O O (by rw[d];omega) (by rw[d];exact growslice_fits O O)
 have k:0+n<=grownCap w (0+n) 0 2:=grownCap_ge w _ _ _;have a:=grownCap_le_maxLen w (0+n) 0 2 SD;rw[aV]at c k a;have g:Q (∀W:Ub,Sx (D W<|.cells (([]:Wo).toArray++Builtin.zeroCells (H 0).cells n++Builtin.zeroCells (H 0).cells (grownCap w n 0 2 - n)) 2) (Z W.1) 2 1 (Hl (Z W.1) 0<|grownCap w n 0 2) 0 []):=Y (λW=>World.ownsRow_made W _ _ aA a (by simp[size_zeroCells,Value.cells];omega));generalize ([]:Wo).toArray++Builtin.zeroCells (H 0).cells n++Builtin.zeroCells (H 0).cells (grownCap w n 0 2 - n)=cells at*;generalize grownCap w n 0 2=q at*;unfold maxLen at a
 go_in
 go_wp2_with (at_builtin;refine Lib.wpList_append_run _ R _ _ _ _ R _ _ R R _ _ (c _) ?_)
 all_goals (go_ret;exact⟨_,R,Xb (Rf).drew _,λ_ h=>(by cases h),g w.drew⟩)
theorem Wb{c1 c2:N}(T_:Q (Xf w B g p l))(U_:Q (Xf w i j P L))(e1:Q (m=J l))(e2:Q (k=J L))(aa:m<=1000)(ab:k<=1000)(Y_:0<m+k)(V_:g<=Z w.1)(W_:j<=Z w.1)(t:E w (A n 0)=S (X p m c1))(q1:E w (A n 1)=S (X P k c2)):
 Sk prog 166 #[Hl n 2 2] w λx z=>∃v,x=Rt v/\Sw (Z w.1) w z/\Sx z (Z w.1) 2 1 v (J (l++L)) ((l++L).map (Si S6)):=by
 obtain⟨K,M,T,F,V⟩:=fX RH;have M_:=Y<|Bb (m+k) w O
 go_in
 go_wp2
 go_loopw [3,11] (λs u wr=>vL wr w/\((s=H 0/\u=H 0)\/(s=H m/\u=H 1)\/(s=H ((m+k:N):I)/\u=H 2))) λ_ u _=>2-(intOf u).toNat
 case atStart=>exact⟨R,bC ⟨R,R⟩⟩
 obtain⟨q,r⟩:=hrel;unfold vL at q;have X_:=q.symm;subst X_;clear q;obtain⟨rfl,rfl⟩|⟨rfl,rfl⟩|⟨rfl,rfl⟩:=r
 .go_wp2;exact⟨⟨R,aZ<|bC ⟨R,R⟩⟩,SL⟩
 .go_wp2;exact⟨⟨R,aZ<|aZ ⟨gM,R⟩⟩,SL⟩
 go_wp2_with fail
 refine M_.mono ?_;rintro x w1⟨v,rfl,y,C,W⟩;have K_:=Y y;have R_:=Y W;have Q_:=Y<|C Y_;have z_:n<Z w.1:=aI _ _ t;clear y W C;go_wp2
 go_loopw [6,27] (λv u e=>Q (Sw (Z w.1) w e)/\Q (v≠Hq)/\((u=H 0/\Q (Sx e (Z w.1) 2 1 v (J ([]:Wc)) (([]:Wc).map (Si S6))))\/(u=H 1/\Q (Sx e (Z w.1) 2 1 v (J l)<|l.map (Si S6)))\/(u=H 2/\Q (Sx e (Z w.1) 2 1 v (J (l++L)) ((l++L).map (Si S6)))))) λ_ u _=>2-(intOf u).toNat
 case atStart=>exact⟨K_,Q_,bC ⟨R,R_⟩⟩
 obtain⟨a,t_,r⟩:=hrel;have aj:=oB a t z_;have al:=oB a q1 z_;have af:=a.4;have ac:J l<=1000:=oN e1.o;have ad:J L<=1000:=oN e2.o;obtain⟨rfl,HOq⟩|⟨rfl,HOq⟩|⟨rfl,HOq⟩:=r
 .have N_:=Y<|T_.keep (a.mono V_);go_wp2_with (at_builtin;refine nG R λS_ hK=>JD _ _ 35 R (Z w.1) 2 K underlying35 M T F V _ [] R HOq t_ p m c1 l B g R e1 N_ SB O ?_)
  intro v2 Z_ d b c;have f:=Y<|b.below HOq a O;have o:=Y d;have h:=Y c;clear d b c;refine hK _ _ ?_;go_wp2;exact⟨⟨f,h,aZ<|bC ⟨R,o⟩⟩,SL⟩
 .have O_:=Y<|U_.keep (a.mono W_);go_wp2_with (at_builtin;refine nG R λS_ hK=>JD _ _ 35 R (Z w.1) 2 K underlying35 M T F V _ l R HOq t_ P k c2 L i j R e2 O_ O O ?_)
  intro v2 Z_ d b c;have f:=Y<|b.below HOq a O;have o:=Y d;have h:=Y c;clear d b c;refine hK _ _ ?_;go_wp2;exact⟨⟨f,h,aZ<|aZ ⟨R,Y<|by rw[aQ,bG];exact o⟩⟩,SL⟩
 go_wp2;go_ret;exact⟨_,R,a,HOq⟩
section
variable {F: Fence} {n: N} {P: Yh} {α: Type}
theorem Ze.keepsF{W V:Ub}{a:N}{r:Loop}(h:Ze W a r)(k:KeepsFrom a W V):Ze V a r:=⟨k.2 _ _ O h.1 R,k.2 _ _ aA h.2 R⟩
theorem JE{f V:Ub}{B a:N}(h:KeepsFrom B f V)(e:B<=a):KeepsFrom a f V:=⟨h.1,λk o d b c=>h.2 k o O b c⟩
end
section
variable {F: Fence} {n: N} {P: Yh} {α: Type}
def lf(F:Fence)(n:N)(P:Yh)(j:N)(k:Zh)(i:N->α->Zh)(h:N->α->Vy)(d:Ub->Vy)(p Sp:List α->Prop)(q:N)(turn m:Prop)(w:Ub):Prop :=
 ∀(l:N)(o:N->List α->Vy)(c:List α->Vy)(W:Ub),Sw (Z w.1) w W->l<Z W.1->(∀z,OwnFrom (Z W.1)<|o z)->OwnFrom (Z W.1) c->(turn->∀z s V a,Z W.1<=z->o z s V->V.grownBy a (S z)->o z s a) ->
  (m->(∀z g s V a,Z W.1<=g->o z s V->Sw (Z W.1) V a->o g s a)/\∀s V a,c s V->Sw (Z W.1) V a->c s a) ->
  (∀z b x V,Z W.1<=z->o z b V->h z x V->J b<q->YieldAt F (n-1) P l (i z x) V λe a=>(e=Rt (Sb So)/\o z (b++[x]) a/\d V a/\KeepsFrom (Z W.1) V a)\/(e=Rt (Sb Sn)/\c (b++[x]) a/\d V a/\KeepsFrom (Z W.1) V a)) ->
  (∀z V,Z W.1<=z->z<Z V.1->Sw (Z W.1) W V->o z [] V)->CallsIn F n P j (#[.func (.yield l) #[] #[]]++k) W λe V=>(∃v,e=Rt v)/\((∃z f,Z W.1<=z/\p f/\o z f V)\/∃b,Sp b/\c b V)
def DT{α:Type}(B:N)(a:World->World->Prop)(d:List α->World->Prop)(c:Code->List α->World->Prop)(b:List α)(W:World):Exit->Act->World->Prop
 |.normal,_,W'=>KeepsFrom B W W'/\a W W'/\d b W'
 |.ret,_,W'=>KeepsFrom B W W'/\a W W'/\c .ret b W'
 |.exit id,_,W'=>KeepsFrom B W W'/\a W W'/\c (.exit id) b W'
 |.goto t,_,W'=>KeepsFrom B W W'/\a W W'/\c (.goto t) b W'
 |.panic _,_,_=>False
 |.outgrown,_,_=>False
theorem nX{ao:Operand}{j:Array Tmp}{l m:Code}{Z_:Yt}{e:Act}{w:Ub}(br:F.4=U)(h1:1<=n){gf:N}{lb:Zh}(hg:e.eval ao=.func (.func gf) #[] lb)(a8:F.1 gf)(eg:∀args w,(callFunc gf args).run P w=.ok (.enter gf args) w){aa:N->α->Zh}{T:N->α->Vy}{B:Ub->Vy}{al Sp:List α->Prop}{aj:N}{turn a5:Prop}{w0:Ub}(bt:lf F (n-1) P gf lb aa T B al Sp aj turn a5 w0)(ba:∀z,OwnFrom (Z w.1)<|T z)(v:∀{p ac ad:Ub},B p ac->B ac ad->B p ad)(J_:∀(W:Ub)(y:N)(o o':Obj),Z w.1<=y->W.1[y]?=S o->o.isCells=Sn->B W (W.putObj y o'))(ar:Sw (Z w0.1) w0 w)(bn:∀z x,Z (aa z x)=Z j)(K:N->List α->Vy)(C:Code->List α->Vy)(M_:∀z,OwnFrom (Z w.1)<|K z)(H_:∀c,OwnFrom (Z w.1)<|C c)(a9:turn->∀z s V g,Z w.1<=z->K z s V->V.grownBy g (S z)->K z s g)(a2:a5->(∀z X_ s V g,Z w.1<=X_->K z s V->Sw (Z w.1+2) V g->K X_ s g)/\∀c s V g,C c s V->Sw (Z w.1+2) V g->C c s g)(h0:∀z V,Z w.1<=z->z<Z V.1->Sw (Z w.1) w V->K z [] V)(Y_:N->α->Tf)(a6:∀z x u,OwnFrom (Z w.1) λ(_:Unit) W=>Y_ z x u W)(bc:∀(y z:N)(d:List α)(x:α)(W:Ub)(af:Tf),Z w.1<=z->K z d W->T z x W->(∀u q,KeepsOthers W q->B W q->K z d q->T z x q->Y_ z x u q->af u q)->l.wpIn (F.inRound y) (n-1-1) P (Exit.then af λ_ _ _=>False) { tmps:=(j.zip<|aa z x).foldl (λT_ (p_,a4)=>T_.setIfInBounds p_ a4) e.1,defers:=[] } W)(be:∀(y z:N)(d:List α)(x:α)(u:Act)(W:Ub),Z w.1<=z->Z w.1<=y->(∃S_,W.1[y]?=S (.loop S_))->K z d W->T z x W->Y_ z x u W->J d<aj->m.wpIn (F.inRound y) (n-1-1) P (DT (Z w.1) B (K z) C (d++[x]) W) u W)(bf:∀(L z:N)(U_:List α)(W:Ub),Z w.1<=L->Z w.1<=z->al U_->K z U_ W->W.1[L]?=S (.deferred (S []))->Z_ .normal { e with defers:={ target:=.collected L,args:=#[] }:: e.2 } W)(bv:∀(L:N)(c:Code)(d:List α)(W:Ub),Z w.1<=L->Sp d->C c d W->W.1[L]?=S (.deferred (S []))->c.wpIn F n P Z_ { e with defers:={ target:=.collected L,args:=#[] }:: e.2 } W):
 (Code.rangeFunc ao j l m).wpIn F n P Z_ e w:=by
 refine wpIn_rangeFunc λfn bh=>?_;rw[br];have a1:=run_enterLoop_outer (P:=P) (w:=w) fn e.1 j l m;generalize N_:D (D w<|.deferred (S [])) (.loop { state:=.ready,pending:=U,fn,tmps:=e.1,params:=j,assign:=l,body:=m,defers:=Z w.1 })=t at a1;have aq:Ze t (Z w.1) (KR fn e.1 j l m (Z w.1) .ready U):=by
  subst N_;refine⟨?_,?_⟩
  .have:=World.alloc_heap_new (D w<|.deferred (S [])) (.loop (KR fn e.1 j l m (Z w.1) .ready U));rwa[aO]at this
  exact G (Below.heap_alloc _ _ _ sP) (World.alloc_heap_new w _)
 have b1:Z t.1=Z w.1+2:=by subst N_;simp
 have ap:Sw (Z w.1) w t:=by subst N_;exact Xb (Xb (Below.refl (Z w.1) w) _) _
 have a7:=ar.trans<|ap.mono ar.4;clear N_;refine⟨_,_,t,{ target:=.fn (.func gf) lb,args:=#[.func (.yield (Z w.1+1)) #[] #[]] },t,gf,#[.func (.yield (Z w.1+1)) #[] #[]]++lb,t,a1,?_,?_,?_,λ_=>h1,?_⟩
 .simp only[resolve,hg];simp[go_sem]
 .intro f' az;simp[Target.leads]at az;subst az;exact a8
 .simp[invoke,go_sem,eg]
 have ow:∀{S_:Loop}{p V:Ub}{row:Zm},Ze p (Z w.1) S_->p.grownBy V row->(∀k,row=S k->Z t.1<=k/\∃o:Obj,p.1[k]?=S o/\o.isCells=Sn)->Ze V (Z w.1) S_:=λab k r=>ab.own k (λz h=>by have:=(r z h).1;omega);have fr:∀{p:Ub}{row:Zm},(∀k,row=S k->Z t.1<=k/\∃o:Obj,p.1[k]?=S o/\o.isCells=Sn)->∀k,row=S k->Z w.1<=k/\∃o:Obj,p.1[k]?=S o/\o.isCells=Sn:=λr k h=>⟨oN<|(r k h).1,(r k h).2⟩
 refine(bt (Z w.1+1) (λz d W=>K z d W/\Ze W (Z w.1) (KR fn e.1 j l m (Z w.1) .ready U)) (λd W=>∃c,C c d W/\Ze W (Z w.1) (KR fn e.1 j l m (Z w.1) .done<|some c)) t a7 O
  (λz s p V row i k r=>⟨M_ z s p V row i.1 k<|fr r,ow i.2 k r⟩) (λs p V row i k r=>by let⟨c,hc,f⟩:=i;exact⟨c,H_ c s p V row hc k<|fr r,ow f k r⟩) (λht z s V g Q_ i k=>⟨a9 ht z s V g O i.1 k,i.2.own k λr h=>by injection h with h;omega⟩)
  (λa=>⟨λz X_ s V g Q_ i k=>⟨(a2 a).1 z X_ s V g O i.1 (k.mono O),⟨G (k.5 _ O) i.2.1,G (k.5 _ O) i.2.2⟩⟩,λs V g i k=>by let⟨c,hc,f⟩:=i;exact⟨c,(a2 a).2 c s V g hc (k.mono O),⟨G (k.5 _ O) f.1,G (k.5 _ O) f.2⟩⟩⟩) ?_ λz V Q_ bx hV=>⟨h0 z V O bx<|ap.trans (hV.mono O),⟨G (hV.5 _ O) aq.1,G (hV.5 _ O) aq.2⟩⟩).mono ?_
 .rintro z d x W Q_⟨K_,f⟩ bp bm;have hy:=run_yield (P:=P) f.1 (bn z x);refine⟨_,_,_,_,hy,roundIn_of_wpIn bh<|bc _ z d x W _ O K_ bp λu q a0 bl bi bq bd=>?_⟩;have M:=f.keeps a0;refine⟨_,run_beginRound M.1 R,?_⟩;have L_:Ze (q.putObj (Z w.1+1) (.loop (KR fn e.1 j l m (Z w.1) .busy U))) (Z w.1) (KR fn e.1 j l m (Z w.1) .busy U):=M.put _;have O_:B W (q.putObj (Z w.1+1) (.loop (KR fn e.1 j l m (Z w.1) .busy U))):=v bl<|J_ _ _ _ _ O M.1 R;refine wpIn_mono (be _ z d x u _ O O ⟨_,L_.1⟩ ((M_ z).putObj _ bi O M.1 R) ((ba z).putObj _ bq O M.1 R) ((a6 z x u).putObj (s:=()) _ bd O M.1 R) bm) ?_;have R_:∀{V:Ub}(o:Obj),KeepsFrom (Z w.1) (q.putObj (Z w.1+1) (.loop (KR fn e.1 j l m (Z w.1) .busy U))) V->KeepsFrom (Z t.1) W (V.putObj (Z w.1+1) o):=λ{V} o ab=>(((a0.from _).trans (KeepsFrom.of_grownBy (grownBy_putObj' q _ _) λb0 h=>by cases h;omega)).trans (JE ab O)).trans (KeepsFrom.of_grownBy (grownBy_putObj' V _ _) λb0 h=>by cases h;omega);rintro h a3 V b;cases h with
  |normal=>
   have a:=L_.keepsF b.1;exact⟨_,_,a.fin U,.inl ⟨R,⟨(M_ z).putObj _ b.2.2 O a.1 R,a.put _⟩,v (v O_ b.2.1) (J_ _ _ _ _ O a.1 R),R_ _ b.1⟩⟩
  |ret=>
   have a:=L_.keepsF b.1;exact⟨_,_,a.fin<|some .ret,.inr ⟨R,⟨.ret,(H_ _).putObj _ b.2.2 O a.1 R,a.put _⟩,v (v O_ b.2.1) (J_ _ _ _ _ O a.1 R),R_ _ b.1⟩⟩
  |exit id=>
   have a:=L_.keepsF b.1;exact⟨_,_,a.fin<|some (.exit id),.inr ⟨R,⟨.exit id,(H_ _).putObj _ b.2.2 O a.1 R,a.put _⟩,v (v O_ b.2.1) (J_ _ _ _ _ O a.1 R),R_ _ b.1⟩⟩
  |goto T_=>
   have a:=L_.keepsF b.1;exact⟨_,_,a.fin<|some (.goto T_),.inr ⟨R,⟨.goto T_,(H_ _).putObj _ b.2.2 O a.1 R,a.put _⟩,v (v O_ b.2.1) (J_ _ _ _ _ O a.1 R),R_ _ b.1⟩⟩
  |panic ch=>exact b.elim
  |outgrown=>exact b.elim
 rintro h V⟨⟨a4,rfl⟩,(⟨z,U_,Q_,hS,K_,f⟩|⟨d,bb,c,K_,f⟩)⟩;·exact⟨U,_,run_endLoop f.1 (by simp[KR]),bf _ z U_ _ aA O hS ((M_ z).putObj _ K_ O f.1 R) (f.put _).2⟩
 exact⟨S c,_,run_endLoop f.1 (by simp[KR]),bv _ c d _ aA bb ((H_ c).putObj _ K_ O f.1 R) (f.put _).2⟩
end
theorem Bu(n k:N):Us n k <+: Us n 0:=by
 unfold Us;rw[show n-0=n by omega,aW (by simp:J (List.finRange n).reverse<=n)];exact List.take_prefix _ _
theorem ED{F:Fence}(v:F.1 192)(T:F.4=U)(Y_:1<=n)(C:N)(j:Vv)(r:Uy){a:Vr}(Z_:J a<=1000000)(L:∀b,g<=b->b<i->¬j b)(M:¬j k)(u p:List (Fin (J a))->Vy)(K:∀(d:List (Fin (J a)))(x:Fin (J a))(w:Ub),u d w->J d<J a->YieldAt F (n-1) prog m #[H ((x:N):I),mj a[x]] w λf e=>
  (f=Rt (Sb So)/\u (d++[x]) e/\Zf B j w e)\/(f=Rt (Sb Sn)/\p (d++[x]) e))(V:E w (A k 0)=S (X r (J a) C))(P:Q (YY w g i r a))(W:u [] w):
 CallsIn F n prog 192 #[.func (.yield m) #[] #[],Hn k] w λf e=>(∃U_,f=Rt U_) /\
  ((∃y,y=Us (J a) 0/\u y e)\/(∃d,(∃q,d=Us (J a) q)/\p d e)):=by
 refine iD func192 R v ?_ T;simp only[ntmps192,xY,Nat.reduceAdd,Nat.reduceSub];gi_wp2
 gi_loopw [3] (λo wr=>∃(b:N)(z:I),b<=J a/\o=H z/\z+1=(b:I)/\u (Us (J a) b) wr/\Zf B j w wr)
  (λo _=>(intOf o+1).toNat)
 case atStart=>exact⟨J a,_,aA,R,O,by rw[Ua];exact W,Zf.refl _⟩
 obtain⟨b,z,R_,rfl,ab,s,c⟩:=hrel;have X_:=c.cell V M;cases b with
 |zero=>
  have l:z=-1:=O;subst l;gi_wp2
  go_end0
  exact⟨⟨_,R⟩,.inl ⟨_,R,s⟩⟩
 |succ q=>
  have l:z=(q:I):=O;subst l;have hq:q<J a:=R_;let⟨A_,ac,D_,t,Q_⟩:=P q hq;subst D_;have h:=L A_ t.1 t.2;let⟨v_,q1,q2,q3,q4⟩:=Q_;have r0:=c.cell v_ h;have r1:=c.cell q1 h;have r2:=c.cell q2 h;have r3:=c.cell q3 h;have r4:=c.cell q4 h;let⟨W_,tmps,assign,body,u_,N_⟩:=K _ ⟨q,hq⟩ wr s (by rw[Vf];omega);have aa:(Instr.yield m #[H ((q:N):I),Sa #[H a[q].1,H a[q].2,H a[q].a,H a[q].b,H a[q].5]]).run prog wr=_:=u_;gi_wp2;refine N_.mono ?_;rintro f V_ (⟨rfl,I_,S_⟩|⟨rfl,K_⟩)
  .gi_wp2
   go_roundw
   case rel=>exact⟨q,_,O,R,O,by rw[TJ hq];exact I_,c.trans S_⟩
   simp[intOf]
  gi_wp2;refine cC (gV R _ _ _) R ?_;exact⟨⟨_,R⟩,.inr ⟨_,⟨q,(TJ hq).symm⟩,K_⟩⟩
theorem VE(F:Fence)(e:N)(i:F.1 192)(v:F.4=U)(t:1<=e)(c:Vv){a:Vr}(u:J a<=1000000)(M:g<=m)(o:∀b,B<=b->b<g->¬c b)(q:¬c n)(P:m<=Z w.1)(j:n<Z w.1)(s:E w (A n 0)=S (X p (J a) k))(l:Q (YY w B g p a)):
 SeqStopsK F e prog 192 #[Hn n] (λx:Fin (J a)=>#[H ((x:N):I),mj a[x]]) (Zf m c) (λK=>K=Us (J a) 0) (λy=>∃z,y=Us (J a) z) (J a) w:=λT L f W d _ _ r h=>
 ED i v t k c p u o q L f r (oB d s j) (Y<|l.keepS λb _ C=>d.5 b O) h
section
def Yu{T:Type}(f:N->T->List Value):N->List T->List Value
 |_,[]=>[]
 |k,x::xs=>f k x++Yu f (k+1) xs
variable {T: Type} {f f': N -> T -> Wo} {sz: N}
theorem Zn(b:∀k x,J (f k x)=sz):∀(k:N)(a:List T),J (Yu f k a)=J a*sz
 |_,[]=>by simp[Yu]
 |k,x::a=>by rw[Yu,aQ,b,Zn b,bA,jK,jL,Nat.add_comm]
theorem Xz(b:∀k x,J (f k x)=sz):∀(k:N)(a:List T)(i:N)(h:i<J a)(q:N),q<sz->(Yu f k a)[i*sz+q]?=(f (k+i) a[i])[q]?
 |_,[],_,h,_,_=>Sz h sP
 |k,x::a,0,_,q,hq=>by
  rw[Yu,lC,aV,dL<|by rw[b];exact hq];rfl
 |k,x::a,i+1,h,q,hq=>by
  rw[Yu,eV (by rw[b,jK,jL];omega),b,show(i+1)*sz+q-sz=i*sz+q by rw[jK,jL];omega,Xz b (k+1) a i SI q hq,fO,show k+1+i=k+(i+1) by omega]
theorem Zo:∀(k:N)(a:List T)(x:T),Yu f k (a++[x])=Yu f k a++f (k+J a) x
 |k,[],x=>by simp[Yu]
 |k,y::a,x=>by rw[cW,Yu,Yu,Zo (k+1) a x,cK,bA,show k+1+J a=k+(J a+1) by omega]
structure Xv(w:Ub)(lab:N->N×N×N)(L:N×N×N)(base t sz:N)(v:Uj)(n:N)(cs:Wo):Prop where
 own:Sx w base t sz v n cs
 lab:∀b,v.ownBlock=S b->lab b=L
theorem Zl{w w':Ub}{a t sz:N}{v:Uj}{n:N}{c:Wo}(h:Sx w a t sz v n c)(o:∀b,v.ownBlock=S b->w'.1[b]?=w.1[b]?):Sx w' a t sz v n c:=by
 obtain⟨d,h|⟨g,e,i,j,l,m,k⟩⟩:=h;·exact⟨d,bC h⟩
 subst j;exact⟨d,aZ ⟨g,e,i,R,l,G (o g R) m,k⟩⟩
theorem Xv.keep{w w':Ub}{d g:N->N×N×N}{L:N×N×N}{a t sz:N}{v:Uj}{n:N}{c:Wo}(h:Xv w d L a t sz v n c)(k:∀b,a<=b->b<Z w.1->d b=L->w'.1[b]?=w.1[b]?/\g b=L):Xv w' g L a t sz v n c :=
 ⟨Zl h.1 λb e=>(k b (h.1.lt b e).1 (h.1.lt b e).2 (h.2 b e)).1,λb e=>(k b (h.1.lt b e).1 (h.1.lt b e).2 (h.2 b e)).2⟩
theorem Xv.set{w:Ub}{d:N->N×N×N}{L:N×N×N}{a t sz g n c:N}{b:Wo}(h:Xv w d L a t sz (X (S ⟨g,0,U⟩) n c) n b)(q:N)(u:Uj):Xv (Se w ⟨g,q,U⟩ u) d L a t sz (X (S ⟨g,0,U⟩) n c) n (b.set q u):=⟨qO h.1 u,h.2⟩
theorem Xv.thaw{w:Ub}{d:N->N×N×N}{L:N×N×N}{a t sz g n c:N}{b:Wo}(h:Xv w d L a t sz (Hl g n c) n b)(q:N):w.frozen? (A g q)=Sn:=h.1.frozenAt q
theorem Xv.cell{w:Ub}{e:N->N×N×N}{L:N×N×N}{b t sz g n c:N}{a:Wo}(h:Xv w e L b t sz (Hl g n c) n a){q:N}{u:Uj}(d:a[q]?=S u):E w (A g q)=S u:=Jj h.1 d
theorem Xv.blk{w:Ub}{b:N->N×N×N}{L:N×N×N}{a t sz g n c:N}{d:Wo}(h:Xv w b L a t sz (Hl g n c) n d):(a<=g/\g<Z w.1)/\b g=L:=⟨h.1.lt g R,h.2 g R⟩
theorem Xv.got{w:Ub}{lab:N->N×N×N}{L:N×N×N}{a t sz n:N}{v:Uj}{b:Wo}(h:Xv w lab L a t sz v n b)(d:0<n):∃g c,v=X (S ⟨g,0,U⟩) n c:=by
 let⟨g,c,e,_⟩:=Xm h.1 d;exact⟨g,c,e⟩
theorem Xv.form{w:Ub}{lab:N->N×N×N}{L:N×N×N}{b t sz n:N}{v:Uj}{d:Wo}(h:Xv w lab L b t sz v n d):∃a c,v=X a n c:=by
 obtain⟨e,h0⟩|⟨g,cap,_,e,_⟩:=h.1.2;·exact⟨U,0,by rw[e,h0]⟩
 exact⟨_,_,e⟩
end
section
structure ag where
 is:Vr
 te:Yj
def jc(w:Ub)(L B b o:N)(x:ag):Prop :=
 ∃a c,E w ⟨b,o,U⟩=S (X a (J x.1) c)/\Va w b (o+1) x.2/\YY w L B a x.1
def d7(w:Ub)(L B:N)(c:Uy)(a:List ag):Prop :=
 ∀i (h:i<J a),∃b o,c=S ⟨b,o,U⟩/\(L<=b/\b<B)/\jc w L B b (o+i*5) a[i]
variable {w w': Ub} {L B: N}
theorem jc.keepS{b o}{x:ag}(h:jc w L B b o x)(k:YA L B w w')(e:w'.1[b]?=w.1[b]?):jc w' L B b o x:=by
 let⟨f,g,a,c,d⟩:=h;exact⟨f,g,G (Xc e) a,c.keepS e,d.keepS k⟩
theorem d7.keepS{b}{d:List ag}(h:d7 w L B b d)(k:YA L B w w'):d7 w' L B b d:=λi g=>by
 let⟨c,o,e,a,f⟩:=h i g;exact⟨c,o,e,a,f.keepS k<|k c a.1 a.2⟩
theorem jc.keep{b o}{x:ag}(h:jc w L B b o x)(k:Sw B w w')(a:b<B):jc w' L B b o x:=h.keepS (YA.of_below k) (k.5 b a)
theorem d7.keep{a}{b:List ag}(h:d7 w L B a b)(k:Sw B w w'):d7 w' L B a b:=h.keepS<|YA.of_below k
theorem jc.mono{b a c o}{x:ag}(h:jc w L B c o x)(l:b<=L)(k:B<=a):jc w b a c o x:=by
 let⟨g,i,d,e,f⟩:=h;exact⟨g,i,d,e,f.mono l k⟩
theorem d7.mono{b a c}{d:List ag}(h:d7 w L B c d)(l:b<=L)(k:B<=a):d7 w b a c d:=λj i=>by
 let⟨e,o,f,m,g⟩:=h j i;exact⟨e,o,f,O,g.mono l k⟩
def km(a:List ag):Prop:=∀x∈a,J x.1<=1048576
end
section
variable {w w': Ub} {L B: N}
theorem Va.keep{b o x}(h:Va w b o x)(k:Sw B w w')(a:b<B):Va w' b o x:=h.keepS<|k.block b a
end
theorem Waa_{a b}:K8 a++K8 b=K8 (a++b):=by
 apply ByteArray.ext;simp[K8,ByteArray.data_append]
section
open Go.Deep
variable {H_: Type} {enc: TypeId×Uj -> H_} {P: Yh} {w: Ub} {base: N} {spare: N -> Bool} {held: Bool}
theorem Jh{a:Addr}{v:Uj}(h:E w a=S v):a.1<Z w.1:=by
 unfold World.cell? at h;split at h
 .rename_i c _ _ b;exact(aS.1 b).1
 cases h
theorem BT{α:Type}[Inhabited α]{z k:TypeId}{C s:N}{t:Wo}{x:DataW H_×List MemPlace}(L:P.underlying z=S (.slice k))(F:P.cellsOf k=s)(v:0<s)(B:N->N->α->Prop)(hQ:∀b o a p M,(∀j,j<s->E w (A b<|o+j)=a[j]?)->J a=s->DataW.trod enc P w base spare held p k a=S M->∃x,B b o x)(T:DataW.trod enc P w base spare held C z t=S x):
 ∃(h:Uy)(q:List α)(c:N),t=[X h (J q) c]/\J q<=maxLen/\∀i (d:i<J q),∃b o,h=S (A b o)/\b<Z w.1/\B b (o+i*s) q[i]:=by
 obtain⟨rfl,_⟩|⟨h,len,cap,m,p,V,Pl,rfl,_,hl,hm,hmm,_,n⟩:=open_slice L T;·exact⟨U,[],0,R,aN,λi d=>Sz d sP⟩
 rw[F]at n;have M_:len<=m:=by rw[hmm];split<;>omega
 have r:∀i,i<len->∃a,J a=s/\(∀j,j<s->E w ((h.add<|i*s).add j)=a[j]?)/\DataW.trod enc P w base spare held p k a=S (V i,Pl i):=λi d=>by
  obtain⟨a,f,e⟩:=n i O;obtain⟨_,g,l⟩:=World.cells?_some f;exact⟨a,g,l,e⟩
 obtain⟨b,o,y⟩:=h;by_cases W:len=0
 .subst W;exact⟨S ⟨b,o,y⟩,[],cap,R,aN,λi d=>Sz d sP⟩
 have K:y=U:=by
  obtain⟨a,f,e,_⟩:=r 0 O;have g:=e 0 v;rw[aC O]at g;simpa [Addr.add]using World.cell?_spot g
 subst K;obtain⟨B_,F_⟩:=choose_lt (α:=α) (n:=len) (p:=λi x=>b<Z w.1/\B b (o+i*s) x) (λi d=>by
  obtain⟨a,f,e,g⟩:=r i d;have l:=λj G_=>by
   have:=e j G_;rw[Addr.add_mid,Addr.add_mid]at this;exact this
  obtain⟨x,n⟩:=hQ b (o+i*s) a p _ l f g;have u:=l 0 v;rw[aC O]at u;exact⟨x,Jh u,n⟩)
 refine⟨S<|A b o,(Rg len).map B_,cap,sP,SB,λi d=>?_⟩;simp only[bK,gI]at d;obtain⟨f,e⟩:=F_ i d;exact⟨b,o,R,f,by simpa using e⟩
end
end Go.Proofs.YtnggdhnpjfigjaaGreatDoor
