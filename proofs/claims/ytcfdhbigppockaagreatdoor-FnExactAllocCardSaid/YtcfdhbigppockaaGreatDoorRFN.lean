import Derived.OrdersIn
import Derived.OrdersHeld
import Derived.Test.YtcfdhbigppockaaGreatDoorE2
namespace Go.Proofs.YtcfdhbigppockaaGreatDoor
set_option maxHeartbeats 2000000
set_option maxRecDepth 100000
open Go.RowKit Go.Shelf Go.Proofs.Tryz
variable{t T z:Int}{n m k B g i:Nat}{w v u:Ub}{a:Uj}{p:Uy}{d:Vv}{q:Xe}{R:Yh}
section
variable {F: Fence} {n: Nat} {P: Yh} {α: Type}
def pp(F:Fence)(n:Nat)(P:Yh)(h:Nat)(i:Zh)(g:α->Zh)(f:α->Vy)(d:Ub->Vy)(S:List α->Prop)(N:Nat)(w:Ub):Prop :=
 ∀(l:Nat)(J:List α->Vy)(W:Ub),Below w.1.size w W->l<W.1.size->OwnFrom W.1.size J ->
  (∀b x V,J b V->f x V->b.length<N->YieldAt F (n-1) P l (g x) V λe a=>e=.returned (.bool true)/\J (b++[x]) a/\d V a/\KeepsFrom W.1.size V a) ->
  J [] W->CallsIn F n P h (#[.func (.yield l) #[] #[]]++i) W λe V=>(∃v,e=.returned v)/\∃c,S c/\J c V
def KR(fn:FuncId)(f:Zh)(d:Array Tmp)(a b:Code)(D:Nat)(e:LoopState)(c:Option Code):Loop:={ state:=e,pending:=c,fn,tmps:=f,params:=d,assign:=a,body:=b,defers:=D }
def Ze(W:Ub)(D:Nat)(r:Loop):Prop:=W.1[D+1]?=some (.loop r)/\W.1[D]?=some (.deferred (some []))
theorem Ze.put{W:Ub}{D:Nat}{r:Loop}(h:Ze W D r)(a:Loop):Ze (W.putObj (D+1) (.loop a)) D a :=
 ⟨World.putObj_heap_same (aS.1 h.1).1,(World.putObj_heap_other oM).trans h.2⟩
theorem Ze.own{W V:Ub}{D:Nat}{r:Loop}{row:Zm}(h:Ze W D r)(g:W.grownBy V row)(a:∀k,row=some k->D+2<=k):Ze V D r :=
 ⟨(g.5 _ (aS.1 h.1).1 λe=>by have:=a _ e.symm;omega).trans h.1,(g.5 _ (aS.1 h.2).1 λe=>by have:=a _ e.symm;omega).trans h.2⟩
theorem Ze.keeps{W V:Ub}{D:Nat}{r:Loop}(h:Ze W D r)(k:KeepsOthers W V):Ze V D r:=⟨k.2 _ _ h.1 rfl,k.2 _ _ h.2 rfl⟩
theorem Ze.fin{W:Ub}{D:Nat}{c:FuncId}{e:Zh}{d:Array Tmp}{a b:Code}(h:Ze W D (KR c e d a b D .busy none))(j:Option Code):(Instr.endRound (D+1) j).run P W=.ok (.bool j.isNone) (W.putObj (D+1) (.loop (KR c e d a b D (if j.isNone then .ready else .done) j))):=run_endRound j h.1
theorem wj{M:Operand}{c:Array Tmp}{h i:Code}{Q:Yt}{a:Act}{w:Ub}(bb:F.4=none)(h1:1<=n){gf:Nat}{lb:Zh}(hg:a.eval M=.func (.func gf) #[] lb)(aj:F.1 gf)(eg:∀args w,(callFunc gf args).run P w=.ok (.enter gf args) w){E:α->Zh}{u:α->Vy}{l:Ub->Vy}{S:List α->Prop}{N:Nat}{y:Ub}(bc:pp F (n-1) P gf lb E u l S N y)(ao:OwnFrom w.1.size u)(G:∀{A J K:Ub},l A J->l J K->l A K)(O:∀(W:Ub)(m:Nat)(o o':Obj),w.1.size<=m->W.1[m]?=some o->o.isCells=false->l W (W.putObj m o'))(R:Below y.1.size y w)(a7:∀x,(E x).size=c.size)(I:List α->Vy)(r:OwnFrom w.1.size I)(h0:I [] w)(C:α->Tf)(ad:∀x g,OwnFrom w.1.size λ(_:Unit) W=>C x g W)(aq:∀(m:Nat)(b:List α)(x:α)(W:Ub)(L:Tf),I b W->u x W->(∀g d,KeepsOthers W d->l W d->I b d->u x d->C x g d->L g d)->h.wpIn (F.inRound m) (n-1-1) P (Exit.then L λ_ _ _=>False) { tmps:=(c.zip<|E x).foldl (λaa (p,ab)=>aa.setIfInBounds p ab) a.1,defers:=[] } W)(az:∀(m:Nat)(b:List α)(x:α)(g:Act)(W:Ub),I b W->u x W->C x g W->b.length<N->i.wpIn (F.inRound m) (n-1-1) P (ownPostK l I (λ_ _ _=>False) (b++[x]) W) g W)(a0:∀(D:Nat)(B:List α)(W:Ub),w.1.size<=D->S B->I B W->W.1[D]?=some (.deferred (some []))->Q .normal { a with defers:={ target:=.collected D,args:=#[] }:: a.2 } W):
 (Code.rangeFunc M c h i).wpIn F n P Q a w:=by
 refine wpIn_rangeFunc λfn a1=>?_;rw[bb];have X:=run_enterLoop_outer (P:=P) (w:=w) fn a.1 c h i;generalize v:(w.alloc<|.deferred (some [])).alloc (.loop { state:=.ready,pending:=none,fn,tmps:=a.1,params:=c,assign:=h,body:=i,defers:=w.1.size })=f at X;have ap:Ze f w.1.size (KR fn a.1 c h i w.1.size .ready none):=by
  subst v;refine⟨?_,?_⟩
  .have:=World.alloc_heap_new (w.alloc<|.deferred (some [])) (.loop (KR fn a.1 c h i w.1.size .ready none));rwa[aO]at this
  exact(Below.heap_alloc _ _ _ sP).trans (World.alloc_heap_new w _)
 have bh:f.1.size=w.1.size+2:=by subst v;simp
 have al:I [] f:=by subst v;exact r.alloc _<|r.alloc _ h0
 have af:Below y.1.size y f:=by
  subst v;exact R.trans<|(Xb (Xb (Below.refl w.1.size w) _) _).mono R.4
 refine⟨_,_,f,{ target:=.fn (.func gf) lb,args:=#[.func (.yield (w.1.size+1)) #[] #[]] },f,gf,#[.func (.yield (w.1.size+1)) #[] #[]]++lb,f,X,?_,?_,?_,λ_=>h1,?_⟩
 .simp only[resolve,hg];simp[go_sem]
 .intro f' T;simp[Target.leads]at T;subst T;exact aj
 .simp[invoke,go_sem,eg]
 have ow:∀{Z:Loop}{A V:Ub}{row:Zm},Ze A w.1.size Z->A.grownBy V row->(∀k,row=some k->f.1.size<=k/\∃o:Obj,A.1[k]?=some o/\o.isCells=false)->Ze V w.1.size Z:=λac k q=>ac.own k (λbf e=>by have:=(q bf e).1;omega);have fr:∀{A:Ub}{row:Zm},(∀k,row=some k->f.1.size<=k/\∃o:Obj,A.1[k]?=some o/\o.isCells=false)->∀k,row=some k->w.1.size<=k/\∃o:Obj,A.1[k]?=some o/\o.isCells=false:=λq k e=>⟨oN<|(q k e).1,(q k e).2⟩
 refine(bc (w.1.size+1) (λb W=>I b W/\Ze W w.1.size (KR fn a.1 c h i w.1.size .ready none)) f af oM
  (λbe A V row Y k q=>⟨r be A V row Y.1 k<|fr q,ow Y.2 k q⟩) ?_ ⟨al,ap⟩).mono ?_
 .rintro b x W⟨H,s⟩ a8 a6;have hy:=run_yield (P:=P) s.1 (a7 x);refine⟨_,_,_,_,hy,roundIn_of_wpIn a1<|aq _ b x W _ H a8 λg d U a5 a2 a9 ar=>?_⟩;have t:=s.keeps U;refine⟨_,run_beginRound t.1 rfl,?_⟩;have ba:Ze (d.putObj (w.1.size+1) (.loop (KR fn a.1 c h i w.1.size .busy none))) w.1.size (KR fn a.1 c h i w.1.size .busy none):=t.put _;have a4:l W (d.putObj (w.1.size+1) (.loop (KR fn a.1 c h i w.1.size .busy none))):=G a5<|O _ _ _ _ oM t.1 rfl;refine wpIn_mono (az _ b x g _ (r.putObj _ a2 oM t.1 rfl) (ao.putObj _ a9 oM t.1 rfl) ((ad x g).putObj (s:=()) _ ar oM t.1 rfl) a6) ?_;rintro e a3 V j;cases e with
  |normal=>
   have z:=ba.keeps j.1;exact⟨_,_,z.fin none,⟨rfl,⟨r.putObj _ j.2.2 oM z.1 rfl,z.put _⟩,G (G a4 j.2.1) (O _ _ _ _ oM z.1 rfl),(((U.from _).trans (KeepsFrom.of_grownBy (grownBy_putObj' d _ _) λbd e=>by cases e;omega)).trans (j.1.from _)).trans (KeepsFrom.of_grownBy (grownBy_putObj' V _ _) λbd e=>by cases e;omega)⟩⟩
  |ret=>exact j.2.elim
  |exit id=>exact j.2.elim
  |goto aa=>exact j.2.elim
  |panic ch=>exact j.elim
  |outgrown=>exact j.elim
 rintro e V⟨⟨ab,rfl⟩,B,hS,H,s⟩;exact⟨none,_,run_endLoop s.1 (by simp[KR]),a0 _ B _ aA hS (r.putObj _ H oM s.1 rfl) (s.put _).2⟩
end
section
attribute [local go_sem] Oper.semAt_some
structure Zf(n₀:Nat)(Ms:Vv)(V V':Ub):Prop where
 size:V.1.size<=V'.1.size
 low:∀k,k<n₀->¬Ms k->V'.1[k]?=V.1[k]?
 cells:∀(k:Nat)(o:Obj),¬Ms k->V.1[k]?=some o->o.isCells=true->V'.1[k]?=some o
theorem Zf.refl(V:Ub):Zf n d V V:=⟨aA,λ_ _ _=>rfl,λ_ _ _ h _=>h⟩
theorem Zf.trans(h:Zf n d w v)(k:Zf n d v u):Zf n d w u :=
 ⟨aJ h.1 k.1,λi c a=>(k.2 i c a).trans (h.2 i c a),λi o a e b=>k.3 i o a (h.3 i o a e b) b⟩
theorem Zf.putObj(W:Ub)(l:Nat)(o c:Obj)(j:n<=l)(h:W.1[l]?=some o)(g:o.isCells=false):Zf n d W (W.putObj l c):=by
 have f:=grownBy_putObj' W l c;refine⟨f.4,λk i _=>?_,λk m _ a b=>?_⟩;·exact World.putObj_heap_other oM
 exact(World.putObj_heap_other λe=>by subst e;rw[h]at a;injection a with a;subst a;rw[g]at b;cases b).trans a
theorem Zf.of_below(h:Below w.1.size w v)(c:n<=w.1.size):Zf n d w v :=
 ⟨h.4,λk b _=>h.5 k oM,λk o _ a _=>(h.5 k (aS.1 a).1).trans a⟩
theorem Yn{p:Addr}(h:w.cell? p=some a):∃o:Obj,w.1[p.1]?=some o/\o.isCells=true:=by
 unfold World.cell? at h;cases ho:w.1[p.1]? with
 |none=>simp[ho]at h
 |some o=>exact⟨o,rfl,by cases o<;>simp_all[Obj.isCells]⟩
theorem Zf.block(h:Zf n d w v){p:Addr}(e:w.cell? p=some a)(f:¬d p.1):v.1[p.1]?=w.1[p.1]?:=by
 let⟨o,b,c⟩:=Yn e;rw[b];exact h.3 _ _ f b c
theorem Zf.cell(h:Zf n d w v){p:Addr}(b:w.cell? p=some a)(c:¬d p.1):v.cell? p=some a :=
 (bZ<|h.block b c).trans b
def mj(x:Yg):Uj:=.agg #[.int .i64 x.1,.int .i64 x.2,.int .i64 x.a,.int .i64 x.b,.int .i64 x.5]
def Us(n:Nat)(k:Nat):List (Fin n):=((List.finRange n).reverse).take (n-k)
theorem Ua:Us n n=[]:=by simp[Us]
theorem Vf:(Us n m).length=n-m:=by simp[Us]
theorem TJ(h:m<n):Us n m=Us n (m+1)++[⟨m,h⟩]:=by
 unfold Us;have e:n-m=(n-(m+1))+1:=oM;rw[e,bN<|by simp;omega];congr 1;simp;omega
theorem V6(F:Fence)(n:Nat)(c:F.1 150)(d:F.4=none)(a:Uy)(len b:Nat)(w:Ub):
 CallsIn F n prog 150 #[.slice a len b] w λe f=>e=.returned (.func (.func 181) #[] #[.pointer (some ⟨w.1.size,0,none⟩)])/\f=w.alloc (.cells #[.slice a len b] 58):=by
 refine iD func150 rfl c ?_ d;simp only[ntmps150,xY,Nat.reduceAdd,Nat.reduceSub];gi_wp2;go_ret;exact⟨rfl,rfl⟩
end
section
section
variable {F: Fence} {n: Nat} {P: Yh} {ops: Array Oper} {Q: Exit -> Act -> Ub -> Prop} {md: Region.Mode} {S: Ub -> Prop}
def WQ(ops:Array Oper):Bool:=ops.1.all λo=>match o.2 with|.defer _=>false|_=>true
theorem KN(h:WQ ops=true){j:Nat}{o:Oper}(hj:ops[j]?=some o):∀c,o.2≠.defer c:=λc e=>by
 have hm:o∈ops.1:=by
  obtain⟨hlt,rfl⟩:=aS.1 hj;simp
 have:=dV.1 h o hm;rw[e]at this;cases this
def YG(P:Yh)(ops:Array Oper)(S:Vy)(o:Oper)(v:Uj)(a:Act):Prop:=YieldsIf P ops S o v a/\∀w,o.about P w a.eval=none
theorem YG.wpOpIn{i:Nat}{o:Oper}{v:Uj}{a:Act}(hd:∀c,o.2≠.defer c)(hi:ops[i]?=some o)(hy:YG P ops S o v a){K:Tf}{w:Ub}(hS:S w)(h:K (a.put o.1 v) w):wpOpIn F n P ops Q i K a w:=by
 unfold Go.wpOpIn;simp only[hi];have hab:∀f,o.about P w a.eval=some f->F.1 f:=λf hf=>by rw[hy.2 w]at hf;cases hf
 obtain⟨hw,hv⟩|⟨hw,rfl⟩:=hy.1;·simp only[hw,gG,Oper.wpIn,Oper.semAt_plain F a.eval o hd,hv w hS,Oper.uponIn];exact⟨hab,h⟩
 simp only[hw,Bool.false_eq_true,fD];exact⟨hab,h⟩
theorem YG.of_same{o:Oper}{v:Uj}{a a':Act}(hy:YG P ops S o v a)(he:execOp a'.eval o=execOp a.eval o)(hw:Region.wanted o (yielded ops a'.1)=Region.wanted o (yielded ops a.1))(hb:∀w,o.about P w a'.eval=o.about P w a.eval):YG P ops S o v a' :=
 ⟨hy.1.of_same he hw,λw=>(hb w)▸hy.2 w⟩
theorem AR{j:Nat}{oi oj:Oper}{v:Uj}(hdj:∀c,oj.2≠.defer c)(hj:ops[j]?=some oj)(hap:oi.apart ops oj=true)(hsi:∀cs b,oi.2≠.select cs b)(hsj:∀cs b,oj.2≠.select cs b)(hQ:∀c a w,Q (.panic c) (a.put oi.1 v) w->Q (.panic c) a w){K:Tf}{a:Act}{w:Ub}(hy:YG P ops S oi v a)(h:wpOpIn F n P ops Q j K (a.put oi.1 v) w):
 wpOpIn F n P ops Q j (λa' w'=>YG P ops S oi v a'/\K (a'.put oi.1 v) w') a w:=by
 let⟨h1,h2,h3⟩:=Oper.apart_spec hap;have keep:∀(a:Act),YG P ops S oi v a->∀u,YG P ops S oi v (a.put oj.1 u):=λa hy u=>
  hy.of_same (execOp_put oi hsi a oj.1 u h3) (wanted_put oi a oj.1 u h3) λw=>about_put oi w a oj.1 u h3
 have keepD:∀d,YG P ops S oi v { a with defers:=d::a.2 }:=λd=>hy.of_same rfl rfl λ_=>rfl;unfold wpOpIn at*;simp only[hj]at*;rw[wanted_put oj a oi.1 v h1,about_put oj w a oi.1 v h1]at h;split
 .rename_i hw;simp only[hw,gG]at h;unfold Oper.wpIn at*;rw[about_put oj w a oi.1 v h1]at h;refine⟨h.1,?_⟩;have h:=h.2;rw[Oper.semAt_plain F _ oj hdj,execOp_put oj hsj a oi.1 v h1]at h;rw[Oper.semAt_plain F _ oj hdj];generalize (execOp a.eval oj).run P w=r at*;cases r with
  |ok x w'=>
   cases x<;>simp only[Oper.uponIn]at h |-
   case value u=>exact⟨keep a hy u,(jP a v u h2)▸h⟩
   case skip=>exact⟨keep a hy _,(jP a v undef h2)▸h⟩
   case defer d=>
    refine⟨keep _ (keepD d) _,?_⟩;rw[<-jP _ v undef h2,<-Act.put_defers];exact h
   case enter f args=>
    refine⟨h.1,CallsIn.mono h.2 λe w'' he=>?_⟩;cases e with
    |returned u=>exact⟨keep a hy u,(jP a v u h2)▸he⟩
    |panicked c=>exact hQ _ _ _ he
    |outgrown=>exact he
   case row row args=>exact⟨h.1,RowsIn.mono h.2 λu w'' he=>⟨keep a hy u,(jP a v u h2)▸he⟩⟩
   case round l f tmps assign body=>
    refine⟨h.1,RoundIn.mono h.2 λe w'' he=>?_⟩;cases e with
    |returned u=>exact⟨keep a hy u,(jP a v u h2)▸he⟩
    |panicked c=>exact hQ _ _ _ he
    |outgrown=>exact he
  |halt x w'=>
   cases x<;>simp only[Oper.uponIn]at h |-
   case panic u=>exact hQ _ _ _ h
 rename_i hw;simp only[hw]at h;exact⟨h.1,keep a hy _,(jP a v undef h2)▸h.2⟩
def Y9(F:Fence)(n:Nat)(P:Program)(md:Region.Mode)(ops:Array Oper)(Q:Exit->Act->World->Prop)(S:World->Prop):Nat->Array Bool->Act->World->Prop
 |0,listed,a,w=>Region.ready md ops listed=[]/\Q .normal a w
 |fuel+1,listed,a,w=>
  (Region.ready md ops listed=[]->Q .normal a w) /\
  ∀i∈Region.ready md ops listed,wpOpIn F n P ops Q i (λa' w'=>S w'/\Y9 F n P md ops Q S fuel (listed.setIfInBounds i true) a' w') a w
theorem K6:∀(fuel:Nat)(listed:Zz)(a:Act)(w:Ub),Y9 F n P md ops Q S fuel listed a w->wpAnyIn F n P md ops Q fuel listed a w
 |0,_,_,_,h=>h
 |fuel+1,_,_,_,h=>⟨h.1,λi hi=>wpOpIn_mono (λa' w' h'=>K6 fuel _ a' w' h'.2) (h.2 i hi)⟩
theorem AE{i:Nat}{oi:Oper}{v:Uj}(hnd:WQ ops=true)(hi:ops[i]?=some oi)(hsel:∀(j:Nat)(o:Oper) cs b,ops[j]?=some o->o.2≠.select cs b)(hQ:∀c a w,Q (.panic c) (a.put oi.1 v) w->Q (.panic c) a w):
 ∀(fuel:Nat)(listed:Zz)(a:Act)(w:Ub),
  (∀j oj,ops[j]?=some oj->j≠i->listed.getD j true=false->(∀e∈oj.5,Region.binds md e=true->e.1≠i)->oi.apart ops oj=true) ->
  i∈Region.ready md ops listed->YG P ops S oi v a->S w ->
  Y9 F n P md ops Q S fuel (listed.setIfInBounds i true) (a.put oi.1 v) w->Y9 F n P md ops Q S (fuel+1) listed a w:=by
 intro fuel
 induction fuel with
 |zero=>
  intro listed a w _ hr hy hS H;refine⟨λh=>(by rw[h]at hr;cases hr),λj hj=>?_⟩;by_cases hji:j=i;·subst hji;exact hy.wpOpIn (KN hnd hi) hi hS ⟨hS,H⟩
  have:=ready_mono hj hji;rw[H.1]at this;cases this
 |succ fuel ih=>
  intro listed a w hfree hr hy hS H;refine⟨λh=>(by rw[h]at hr;cases hr),λj hj=>?_⟩;by_cases hji:j=i;·subst hji;exact hy.wpOpIn (KN hnd hi) hi hS ⟨hS,H⟩
  have h1:=H.2 j<|ready_mono hj hji
  let⟨hjun,oj,hoj,hall⟩:=mem_ready.1 hj;have hnot:∀e∈oj.5,Region.binds md e=true->e.1≠i:=λe he hb heq=>by
   have h1:=hall e he hb;have h0:=(mem_ready.1 hr).1;rw[heq]at h1;obtain h'|h':=mL i listed.size;·simp[h']at h0 h1;rw[h0]at h1;cases h1
   simp[iI h']at h1
  have h2:=AR (KN hnd hoj) hoj (hfree j oj hoj hji hjun hnot) (λcs b=>hsel i oi cs b hi) (λcs b=>hsel j oj cs b hoj) hQ hy h1;have hfree':∀k ok,ops[k]?=some ok->k≠i->(listed.setIfInBounds j true).getD k true=false ->
   (∀e∈ok.5,Region.binds md e=true->e.1≠i)->oi.apart ops ok=true:=λk ok hk hki hun hno=>by
   refine hfree k ok hk hki ?_ hno;by_cases hjk:j=k;·subst hjk;exact hjun
   rw[getD_set_ne true hjk]at hun;exact hun
  refine wpOpIn_mono (λa' w' h3=>⟨h3.2.1,ih (listed.setIfInBounds j true) a' w' hfree' (ready_mono hr<|kA hji) h3.1 h3.2.1 ?_⟩) h2;rw[Array.setIfInBounds_comm _ _ hji];exact h3.2.2
theorem AW{i:Nat}{oi:Oper}{v:Uj}{fuel:Nat}{listed:Zz}{a:Act}{w:Ub}(hi:ops[i]?=some oi)(hnd:WQ ops=true)(hs:Region.noSelect ops=true)(hf:Region.free md ops listed i=true)(hr:(Region.ready md ops listed).contains i=true)(hQ:∀c a w,Q (.panic c) (a.put oi.1 v) w->Q (.panic c) a w)(hy:YG P ops S oi v a)(hS:S w)(h:Y9 F n P md ops Q S fuel (listed.setIfInBounds i true) (a.put oi.1 v) w):Y9 F n P md ops Q S (fuel+1) listed a w :=
 AE hnd hi (Region.noSelect_spec hs) hQ fuel listed a w (Region.free_spec hi hf) (by simpa using hr) hy hS h
theorem AS{listed:Zz}{a:Act}{w:Ub}(hr:Region.ready md ops listed=[])(h:Q .normal a w):
 ∀fuel,Y9 F n P md ops Q S fuel listed a w
 |0=>⟨hr,h⟩
 |_+1=>⟨λ_=>h,by rw[hr];simp⟩
def Xu(F:Fence)(n:Nat)(P:Yh)(md:Region.Mode)(ops:Array Oper)(Q:Yt)(S:Vy)(fuel:Nat)(listed:Zz)(a:Act)(w:Ub)(rs:Wa):Prop :=
 ∀i∈rs,wpOpIn F n P ops Q i (λa' w'=>S w'/\Y9 F n P md ops Q S fuel (listed.setIfInBounds i true) a' w') a w
theorem Xu.nil{fuel:Nat}{listed:Zz}{a:Act}{w:Ub}:Xu F n P md ops Q S fuel listed a w []:=λ_ h=>by cases h
theorem Xu.cons{fuel:Nat}{listed:Zz}{a:Act}{w:Ub}{i:Nat}{o:Oper}{rs:Wa}(ho:ops[i]?=some o)(h:∀K':Tf,Shut (∀a w,S w->(S w->Y9 F n P md ops Q S fuel (listed.setIfInBounds i true) a w)->K' a w)->if Region.wanted o (yielded ops a.1)=true then Oper.wpIn F n P o a w K' Q else (∀f,o.about P w a.eval=some f->F.1 f)/\K' (a.put o.1 undef) w)(hs:Xu F n P md ops Q S fuel listed a w rs):Xu F n P md ops Q S fuel listed a w (i::rs):=λj hj=>by
 obtain rfl|hj:=cH.1 hj;·exact wpOpIn_step ho λK' hK=>h K' λa w hS hW=>hK a w ⟨hS,hW hS⟩
 exact hs j hj
theorem YM{rs:Wa}{fuel:Nat}{listed:Zz}{a:Act}{w:Ub}(hr:Region.ready md ops listed=rs)(hne:rs≠[])(h:Xu F n P md ops Q S fuel listed a w rs):Y9 F n P md ops Q S (fuel+1) listed a w:=⟨λh0=>absurd (hr▸h0) hne,hr▸h⟩
def k9(Q:Exit->Act->World->Prop):Exit->Act->World->Prop
 |.normal,a,w=>Q .normal a w
 |_,_,_=>False
theorem Tl{id:Nat}{a:Act}{w:Ub}(hm:P.follows .mixedOrders=true)(hS:S w.drew)(h:S w.drew->Y9 F n P .any ops (k9 Q) S ops.size (Array.replicate ops.size false) a w.drew):(Code.region id ops true).wpIn F n P Q a w :=
 wpIn_mono (wpIn_region_any (Q:=k9 Q) hm (K6 _ _ _ _<|h hS)) λe _ _ h=>by cases e<;>first|exact h|exact h.elim
theorem AH{listed:Zz}{a:Act}{w:Ub}(hr:Region.ready md ops listed=[])(h:Q .normal a w)(fuel:Nat):Y9 F n P md ops (k9 Q) S fuel listed a w:=AS (Q:=k9 Q) hr (show k9 Q .normal a w from h) fuel
end
theorem Yi{F:Fence}{n:Nat}{P:Yh}{md:Region.Mode}{ops:Array Oper}{Q:Yt}{S:Vy}(i:Nat){oi:Oper}{v:Uj}{fuel:Nat}{listed:Zz}{a b:Act}{w:Ub}(h:Y9 F n P md ops Q S fuel (listed.setIfInBounds i true) b w)(hi:ops[i]?=some oi:=by exact rfl)(hw:Region.wanted oi (yielded ops a.1)=true:=by rfl)(hy:∀(w:Ub),S w->Sem.run P (execOp a.eval oi) w=Result.ok (Next.value v) w:=by intro w hSw;(try dsimp only at hSw);go_simp;try with_reducible rfl)(hp:a.put oi.1 v=b:=by(simp only[xX]);exact rfl)(hq:∀c a w,Q (.panic c) (a.put oi.1 v) w->Q (.panic c) a w:=by exact λ_ _ _ h=>h)(hz:∀w,oi.about P w a.eval=none:=by exact λ_=>rfl)(hnd:WQ ops=true:=by kernel_rfl)(hs:Region.noSelect ops=true:=by kernel_rfl)(hf:Region.free md ops listed i=true:=by kernel_rfl)(hr:(Region.ready md ops listed).contains i=true:=by kernel_rfl)(hS:S w:=by assumption):Y9 F n P md ops Q S (fuel+1) listed a w:=AW hi hnd hs hf hr hq ⟨bC ⟨hw,hy⟩,hz⟩ hS (hp▸h)
theorem Yc{F:Fence}{n:Nat}{P:Yh}{md:Region.Mode}{ops:Array Oper}{Q:Yt}{S:Vy}(i:Nat){oi:Oper}{fuel:Nat}{listed:Zz}{a:Act}{w:Ub}(h:∀K':Tf,Shut (∀a w,S w->∀{b:Act},(S w->Y9 F n P md ops Q S fuel (listed.setIfInBounds i true) b w)->(hp:a=b:=by(try simp only[xX]);exact rfl)->K' a w)->if Region.wanted oi (yielded ops a.1)=true then Oper.wpIn F n P oi a w K' Q else (∀f,oi.about P w a.eval=some f->F.1 f)/\K' (a.put oi.1 undef) w)(hi:ops[i]?=some oi:=by exact rfl)(hr:Region.ready md ops listed=[i]:=by kernel_rfl):Y9 F n P md ops Q S (fuel+1) listed a w:=YM (rs:=[i]) hr (by simp) (Xu.cons hi (λK hK=>h K λa w hs b k hp=>hK a w hs (hp▸k)) Xu.nil)
theorem Tc{F:Fence}{n:Nat}{P:Yh}{ops:Array Oper}{Q:Yt}(S:Vy){id:Nat}{a:Act}{w:Ub}(h:S w.drew->Y9 F n P .any ops (k9 Q) S ops.size (Array.replicate ops.size false) a w.drew)(hS:S w.drew:=by first|with_reducible exact True.intro|((try dsimp only);go_keep))(hm:P.follows .mixedOrders=true:=by kernel_rfl):(Code.region id ops true).wpIn F n P Q a w:=Tl hm hS h
theorem ZV{F:Fence}{n:Nat}{P:Yh}{md:Region.Mode}{ops:Array Oper}{Q:Yt}{S:Vy}{listed:Zz}{a:Act}{w:Ub}{fuel:Nat}(h:Q .normal a w)(hr:Region.ready md ops listed=[]:=by kernel_rfl):Y9 F n P md ops (k9 Q) S fuel listed a w:=AH hr h fuel
end
theorem KZ(B:Nat){b:List Addr}(a:Wc)(C:m<=w.1.size)(G:Hs (Zx w n m p<|b.map Tx))(e:Hs (a.length=b.length))(H:Hs (∀i (N:i<b.length) (O:i<a.length),b[i].1<w.1.size/\w.cell? b[i]=some (Hp a[i])))(S:b.length<=1000):
 Calls prog 166 #[.slice p b.length B] w λg u=>∃v,g=.returned v/\Below w.1.size w u/\u.ownsRow w.1.size 2 1 v a.length (a.map<|Value.int .i64):=by
 let⟨L,E,I,J,K⟩:=fX RH
 go_in
 go_wp2
 go_loopw [3,9] (λv i wr=>∃k:Nat,k<=b.length/\i=Hp k/\Hs (Below w.1.size w wr)/\Hs (wr.ownsRow w.1.size 2 1 v (a.take k).length ((a.take k).map (Value.int .i64)))) λ_ i _=>b.length-(intOf i).toNat
 case atStart=>exact⟨0,aN,rfl,Xa<|Xb (Below.refl _ _) _,Xa (by
  have:=eI (base:=w.1.size) (e:=2) (size:=1) w #[] 0 sP sP rfl;simpa using this)⟩
 obtain⟨k,R,rfl,c,d⟩:=hrel;have T:=c.4;by_cases o:k<b.length
 .have l:k<a.length:=oN e.o;obtain⟨b2,U,rfl,⟨_,P⟩,h⟩:=(G.keepS<|YA.of_below (c.mono C)) k (by simpa using o);rw[cM]at h;unfold Tx at h;let⟨r,s⟩:=H k o l;have Q:=(c.cell (p:=b[k]) r).trans s;have A:=Xa<|bN l;have f:Hs ((a.take k).length+1<=2000):=Xa (by have:=e.o;simp only[dH];omega);generalize a[k]=V at*;generalize b[k]=W at*;go_wp2_with (at_builtin;refine bT _ rfl _ _ 41 rfl w.1.size 2 L (Hp 0) 1 8 underlying41 E I J K rfl vY _ _ _ rfl (d.alloc _) (Hk wr.1.size 0) 1 1 [Hp V] rfl rfl ?c1 ?c2 ?c3 ?c4 ?c5 ?_)
  case c1=>exact cell_one_new _ _ _
  case c2=>intro X t;simp at t;subst t;rfl
  case c3=>have:=f.o;unfold maxLen;omega
  case c4=>have:=f.o;omega
  case c5=>simp;omega
  intro v1 M q j F D;have y:Hs (M.ownsRow w.1.size 2 1 v1 (a.take<|k+1).length ((a.take<|k+1).map (Value.int .i64))):=Xa (by
   rw[A.o,BE,aQ,List.map_take,dH];exact q)
  have x:=Xa (Xy ((c).alloc oM _) j (d.alloc _) aA (by simp;omega));go_wp2;exact⟨⟨k+1,oM,gM,x,y⟩,by simp[intOf];omega⟩
 have z:Hs (wr.ownsRow w.1.size 2 1 u3 a.length<|a.map (Value.int .i64)):=Xa (by have:=d.o;have g:=e.o;rwa[aW oM]at this);go_wp2;go_ret;exact⟨_,rfl,c,z⟩
def iB(a:Int):Bool:=decide (a<=2)
def gx(k:Int):Wn:=if k=1 then [106,117,109,112]else if k=3 then [114,101,116]else [98,114,97,110,99,104]
def Yy(w:Ub):Prop:=1 < w.1.size/\∀k:Nat,1<=k->k<=13->w.cell? ⟨1,k*5,none⟩=some (.string (K8<|bz k))/\w.cell? ⟨1,k*5+1,none⟩=some (.bool (dB k))/\w.cell? ⟨1,k*5+2,none⟩=some (.bool (aB k)) /\
 w.cell? ⟨1,k*5+3,none⟩=some (.bool (bB k))/\w.cell? ⟨1,k*5+4,none⟩=some (.bool (iB k))
def Yb(w:Ub):Prop:=2 < w.1.size/\∀k:Nat,1<=k->k<=3->w.cell? ⟨2,k*4,none⟩=some (.string (K8<|gx k))/\w.cell? ⟨2,k*4+1,none⟩=some (.bool ((k:Int) != 1))/\w.cell? ⟨2,k*4+2,none⟩=some (.bool ((k:Int) != 3)) /\
 w.cell? ⟨2,k*4+3,none⟩=some (.bool ((k:Int)==2))
theorem Yy.keep{w':Ub}(h:Yy w)(k:Below n w w')(c:1 < n):Yy w':=by
 refine⟨aX h.1 k.4,λi a b=>?_⟩;have e:=λo=>Xc (o:=o) (k.5 1 c);let⟨c0,c1,c2,c3,c4⟩:=h.2 i a b;exact⟨(e _).trans c0,(e _).trans c1,(e _).trans c2,(e _).trans c3,(e _).trans c4⟩
theorem Yb.keep{w':Ub}(h:Yb w)(k:Below n w w')(c:2 < n):Yb w':=by
 refine⟨aX h.1 k.4,λi a b=>?_⟩;have e:=λo=>Xc (o:=o) (k.5 2 c);let⟨c0,c1,c2,c3⟩:=h.2 i a b;exact⟨(e _).trans c0,(e _).trans c1,(e _).trans c2,(e _).trans c3⟩
theorem Yy.old(h:Yy w):Uw w:=⟨h.1,λk a b=>by
 let⟨c0,c1,c2,c3,c4⟩:=h.2 k a b;exact⟨_,c0,c1,c2,c3,_,c4⟩⟩
theorem Yb.old(h:Yb w):T7 w:=⟨h.1,λk a b=>by
 let⟨c0,c1,c2,c3⟩:=h.2 k a b;exact⟨_,c0,c1,c2,c3⟩⟩
theorem J7(w:Ub)(a:Wo)(t:TypeId)(d:Wo)(c:TypeId):Zx ((w.alloc<|.cells a.toArray t).alloc (.cells d.toArray c)).drew w.1.size (w.1.size+2) (some ⟨w.1.size,0,none⟩) a:=λi b=>
 ⟨_,0,rfl,⟨aA,oM⟩,by
  let⟨f,o,e,_,h⟩:=uk w a t i b;cases e;exact(Xc<|Below.heap_alloc _ _ _ sP).trans h⟩
theorem J6(w:Ub)(c:Wo)(t:TypeId)(b:Wo)(a:TypeId):Zx ((w.alloc<|.cells b.toArray a).alloc (.cells c.toArray t)).drew w.1.size (w.1.size+2) (some ⟨w.1.size+1,0,none⟩) c:=λi d=>
 ⟨_,0,rfl,⟨oM,oM⟩,by
  let⟨f,o,e,_,h⟩:=uk (w.alloc<|.cells b.toArray a) c t i d;have e1:(w.alloc<|.cells b.toArray a).1.size=w.1.size+1:=sP;rw[e1]at e;cases e;exact h⟩
theorem yQ{c:List Bool}{b:List Addr}{a W:Ub}{e d:Uy}{i h:Nat}(n:c.length=b.length)(p:b.length<=1000)(l:Below a.1.size a W)(q:a.1.size+2<=W.1.size)(m:Zx W a.1.size (a.1.size+2) e (c.map Value.bool))(o:Zx W a.1.size (a.1.size+2) d (b.map Tx)):
 Calls prog 159 #[.slice e c.length i,.slice d b.length h] W λg f=>∃v,g=.returned v/\Below a.1.size a f/\f.ownsRow a.1.size 266 1 v (Yd c b).length ((Yd c b).map Tx):=by
 refine(UA e d i h c b a.1.size (a.1.size+2) W q (Xa m) (Xa o) (Xa n) p).mono ?_;rintro g f⟨v,rfl,j,k⟩;exact⟨v,rfl,Xg l j,Zk k oM⟩
theorem zE(b:Nat)(k:Nat)(z x y J:Int)(w:Ub)(I:Hs (Jk w b 0 ⟨k,z,x,y,J⟩))(l:1<=k)(m:k<=13)(p:Hs (Yy w)):
 Calls prog 199 #[Hn b] w λn a=>∃v,n=.returned v/\Below w.1.size w a/\a.ownsRow w.1.size 266 1 v (Yd [dB k,aB k,bB k,iB k] [(Hk b 1),(Hk b 2),(Hk b 3),(Hk b 4)]).length ((Yd [dB k,aB k,bB k,iB k] [(Hk b 1),(Hk b 2),(Hk b 3),(Hk b 4)]).map Tx):=by
 obtain⟨q,q1,q2,q3,q4⟩:=I.o;simp only at q q1 q2 q3 q4;obtain⟨c0,c1,c2,c3,c4⟩:=p.2 k l m;have O:=p.1;generalize dB (k:Int)=i at*;generalize aB (k:Int)=g at*;generalize bB (k:Int)=h at*;generalize iB (k:Int)=j at*
 go_in
 go_wp2_with fail
 have H:(λe:Ub=>e.1.size=w.1.size+1/\e.cell? ⟨w.1.size,1,none⟩=some (.bool i)/\e.cell? ⟨w.1.size,2,none⟩=some (.bool g)/\e.cell? ⟨w.1.size,3,none⟩=some (.bool h)/\e.cell? ⟨w.1.size,4,none⟩=some (.bool j)/\Hs (Below w.1.size w e)) (w.alloc<|.cells #[.string (K8<|bz k),.bool i,.bool g,.bool h,.bool j] 227):=⟨sP,sP,sP,sP,sP,Xa<|Xb (Below.refl _ _) _⟩;generalize w.alloc _=c at*;obtain⟨e1,B,C,D,E,s⟩:=H;clear q q1 q2 q3 q4 c0 c1 c2 c3 c4;have M:=Xa e1;have f:w.1.size<c.1.size:=oM;clear e1;have t:=Xa λK A W l m F G=>@yQ [i,g,h,j] [⟨b,1,none⟩,⟨b,2,none⟩,⟨b,3,none⟩,⟨b,4,none⟩] c W K A 4 4 rfl sP l m F G
 go_region_held3 (λa=>a.cell? ⟨w.1.size,1,none⟩=some (.bool i)/\a.cell? ⟨w.1.size,2,none⟩=some (.bool g)/\a.cell? ⟨w.1.size,3,none⟩=some (.bool h)/\a.cell? ⟨w.1.size,4,none⟩=some (.bool j)) (go_keep)
  (first|(go_at_call 159;refine(t _ _ _ (Xb (Xb (Below.refl _ _) _) _).drew (by show _<=(World.alloc _ _).1.size;simp) (by first|exact J7 c _ _ _ _|exact J6 c _ _ _ _) (by first|exact J6 c _ _ _ _|exact J7 c _ _ _ _)).mono ?_;rintro n L⟨v5,rfl,d,o⟩;have r:=Xa<|s.trans (d.mono oM);have u:Hs (L.ownsRow w.1.size 266 1 v5 _ _):=Xa<|Zk o oM;have f1:=oB d B f;have f2:=oB d C f;have f3:=oB d D f;have N:=oB d E f;clear d o))
 all_goals
  go_wp2;go_ret;exact⟨_,rfl,r,u⟩
def Iw(x:Yg):Wc:=(if aB x.1 then [x.a]else [])++(if bB x.1 then [x.b]else [])
theorem vf(b k:Nat)(l h j m:Int)(w:Ub)(Z:Hs (Jk w b 0 ⟨k,l,h,j,m⟩))(V:1<=k)(H:k<=13)(M:Hs (Yy w)):
 Calls prog 151 #[Hn b] w λe f=>∃v,e=.returned v/\Below w.1.size w f/\f.ownsRow w.1.size 2 1 v (Iw ⟨k,l,h,j,m⟩).length ((Iw ⟨k,l,h,j,m⟩).map (Value.int .i64)):=by
 obtain⟨N,q1,q2,q3,q4⟩:=Z.o;simp only at N q1 q2 q3 q4;obtain⟨c0,c1,c2,c3,c4⟩:=M.2 k V H;have hz:=M.1;have K:b<w.1.size:=aI w _ q2;have x:Hs (Iw ⟨k,l,h,j,m⟩=(if aB (k:Int)then [h]else [])++(if bB (k:Int)then [j]else [])):=Xa rfl;generalize Iw ⟨k,l,h,j,m⟩=B at*;generalize dB (k:Int)=uD at*;generalize aB (k:Int)=c at*;generalize bB (k:Int)=d at*;generalize iB (k:Int)=uI at*;have D:=Xa q2;have E:=Xa q3
 go_in
 go_wp2_with fail
 have X:(λt:Ub=>t.1.size=w.1.size+1/\t.cell? (Hk w.1.size 2)=some (.bool c)/\t.cell? (Hk w.1.size 3)=some (.bool d)/\Hs (Below w.1.size w t)) (w.alloc<|.cells #[.string (K8<|bz k),.bool uD,.bool c,.bool d,.bool uI] 227):=⟨sP,sP,sP,Xa<|Xb (Below.refl _ _) _⟩;generalize w.alloc _=a at*;obtain⟨e1,F,G,u⟩:=X;clear N q1 q2 q3 q4 c0 c1 c2 c3 c4;have af:=Xa e1;have q:w.1.size<a.1.size:=oM;clear e1;have y:Hs (∀(s n:Uy)(W:Ub),Below a.1.size a W->Zx W a.1.size W.1.size s ([c,d].map Value.bool)->Zx W a.1.size W.1.size n ([(Hk b 2),(Hk b 3)].map Tx)->Calls prog 159 #[.slice s 2 2,.slice n 2 2] W λe g=>∃i c5 m5,e=.returned (.slice i m5 c5)/\g.cell? (Hk w.1.size 2)=some (.bool c)/\g.cell? (Hk w.1.size 3)=some (.bool d) /\
  Hs (Calls prog 166 #[.slice i m5 c5] g λe f=>∃v,e=.returned v/\f.cell? (Hk w.1.size 2)=some (.bool c)/\f.cell? (Hk w.1.size 3)=some (.bool d)/\Hs (Below w.1.size w f)/\Hs (f.ownsRow w.1.size 2 1 v B.length<|B.map (Value.int .i64)))):=Xa (λs n W I hk hp=>by
  have aj:=I.4;refine(UA s n 2 2 [c,d] [(Hk b 2),(Hk b 3)] a.1.size W.1.size W aA (Xa hk) (Xa hp) (Xa rfl) sP).mono ?_;rintro e g⟨v5,rfl,J,aa⟩;have s5:=J.4;have r:=Xg I J;obtain⟨i,c5,rfl,ac⟩:=UO aa;rw[bK];have L:=u.trans<|r.mono oM;refine⟨i,c5,_,rfl,oB r F q,oB r G q,Xa ?_⟩;have O:=oB L D K;have P:=oB L E K;have p:b<g.1.size:=oM;refine(KZ c5 B aA (Xa ac) (Xa ?_) (Xa ?_) ?_).mono ?_;·rw[x.o];cases c<;>cases d<;>rfl
  .intro z o h';have ad:=x.o;subst ad;cases c<;>cases d;·exact absurd o<|by simp[Yd]
   .match z,o with
    |0,_=>exact⟨p,P⟩
   .match z,o with
    |0,_=>exact⟨p,O⟩
   match z,o with
   |0,_=>exact⟨p,O⟩
   |1,_=>exact⟨p,P⟩
  .cases c<;>cases d<;>simp[Yd]
  rintro e w7⟨Q,rfl,Y,ab⟩
  have A:=Xg r Y;exact⟨Q,rfl,oB A F q,oB A G q,Xa<|u.trans (A.mono oM),Xa<|Zk ab oM⟩)
 have S:=Xa (y.o (some ⟨a.1.size,0,none⟩) (some ⟨a.1.size+1,0,none⟩) ((a.alloc<|.cells #[.bool c,.bool d] 4).alloc (.cells #[Ho b 2,Ho b 3] 266)).drew (Xb (Xb (Below.refl a.1.size a) _) _).drew (by rw[show((a.alloc<|.cells #[.bool c,.bool d] 4).alloc (.cells #[Ho b 2,Ho b 3] 266)).drew.1.size=a.1.size+2 from by show((a.alloc<|.cells #[.bool c,.bool d] 4).alloc (.cells #[Ho b 2,Ho b 3] 266)).1.size=_;simp];exact J7 a [.bool c,.bool d] 4 [Ho b 2,Ho b 3] 266) (by rw[show((a.alloc<|.cells #[.bool c,.bool d] 4).alloc (.cells #[Ho b 2,Ho b 3] 266)).drew.1.size=a.1.size+2 from by show((a.alloc<|.cells #[.bool c,.bool d] 4).alloc (.cells #[Ho b 2,Ho b 3] 266)).1.size=_;simp];exact J6 a [Ho b 2,Ho b 3] 266 [.bool c,.bool d] 4));have T:=Xa (y.o (some ⟨a.1.size+1,0,none⟩) (some ⟨a.1.size,0,none⟩) ((a.alloc<|.cells #[Ho b 2,Ho b 3] 266).alloc (.cells #[.bool c,.bool d] 4)).drew (Xb (Xb (Below.refl a.1.size a) _) _).drew (by rw[show((a.alloc<|.cells #[Ho b 2,Ho b 3] 266).alloc (.cells #[.bool c,.bool d] 4)).drew.1.size=a.1.size+2 from by show((a.alloc<|.cells #[Ho b 2,Ho b 3] 266).alloc (.cells #[.bool c,.bool d] 4)).1.size=_;simp];exact J6 a [.bool c,.bool d] 4 [Ho b 2,Ho b 3] 266) (by rw[show((a.alloc<|.cells #[Ho b 2,Ho b 3] 266).alloc (.cells #[.bool c,.bool d] 4)).drew.1.size=a.1.size+2 from by show((a.alloc<|.cells #[Ho b 2,Ho b 3] 266).alloc (.cells #[.bool c,.bool d] 4)).1.size=_;simp];exact J7 a [Ho b 2,Ho b 3] 266 [.bool c,.bool d] 4));clear y u D E x
 go_region_held3 (λf=>f.cell? (Hk w.1.size 2)=some (.bool c)/\f.cell? (Hk w.1.size 3)=some (.bool d)) (go_keep)
  (first
   |(go_at_call 159;with_reducible refine S.o.mono ?_;rintro e g⟨i,c5,m5,rfl,f2,f3,C⟩)
   |(go_at_call 159;with_reducible refine T.o.mono ?_;rintro e g⟨i,c5,m5,rfl,f2,f3,C⟩)
   |(go_at_call 166;with_reducible refine C.o.mono ?_;rintro e w7⟨Q,rfl,H,h3,R,U⟩))
 all_goals
  go_wp2;go_ret;exact⟨_,rfl,R,U⟩
def Id(x:Yj):Wc:=if x.1 != 1 then [x.a]else []
theorem tL(C:Hs (Va w n m ⟨k,t,T,z⟩))(A:1<=k)(B:k<=3)(q:Hs (Yb w)):
 Calls prog 116 #[Ho n m] w λe c=>∃v,e=.returned v/\Below w.1.size w c/\c.ownsRow w.1.size 266 1 v (Yd [(k:Int) != 1] [(Hk n<|m+1)]).length ((Yd [(k:Int) != 1] [(Hk n<|m+1)]).map Tx):=by
 let⟨h,q1,q2,q3⟩:=C.o;simp only at h q1 q2 q3;let⟨c0,c1,c2,c3⟩:=q.2 k A B;have r:=q.1;have p:n<w.1.size:=aI w _ h;generalize ((k:Int) != 1)=b at*;have i:Hs (∀(g f:Uy)(W:Ub),Below w.1.size w W->Zx W w.1.size W.1.size g ([b].map Value.bool)->Zx W w.1.size W.1.size f ([(Hk n<|m+1)].map Tx)->Calls prog 159 #[.slice g 1 1,.slice f 1 1] W λe d=>∃v,e=.returned v/\Below w.1.size w d/\Hs (d.ownsRow w.1.size 266 1 v (Yd [b] [(Hk n<|m+1)]).length ((Yd [b] [(Hk n<|m+1)]).map Tx))):=Xa (λg f W o D F=>by
  have K:=o.4;refine(UA g f 1 1 [b] [(Hk n<|m+1)] w.1.size W.1.size W aA (Xa D) (Xa F) (Xa rfl) sP).mono ?_;rintro e d⟨v5,rfl,a,E⟩;exact⟨v5,rfl,Xg o a,Xa<|Zk E oM⟩)
 have e2:∀x y,((w.alloc x).alloc y).drew.1.size=w.1.size+2:=λx y=>by show((w.alloc x).alloc y).1.size=_;simp
 have s:=Xa (i.o (some ⟨w.1.size,0,none⟩) (some ⟨w.1.size+1,0,none⟩) ((w.alloc<|.cells #[.bool b] 4).alloc (.cells #[Ho n<|m+1] 266)).drew (Xb (Xb (Below.refl w.1.size w) _) _).drew (by rw[e2];exact J7 w [.bool b] 4 [Ho n<|m+1] 266) (by rw[e2];exact J6 w [Ho n<|m+1] 266 [.bool b] 4));have u:=Xa (i.o (some ⟨w.1.size+1,0,none⟩) (some ⟨w.1.size,0,none⟩) ((w.alloc<|.cells #[Ho n<|m+1] 266).alloc (.cells #[.bool b] 4)).drew (Xb (Xb (Below.refl w.1.size w) _) _).drew (by rw[e2];exact J6 w [.bool b] 4 [Ho n<|m+1] 266) (by rw[e2];exact J7 w [Ho n<|m+1] 266 [.bool b] 4));have G:(0:Int)<=(k:Int):=oM;have I:(k:Int)<4:=oM
 go_in
 go_wp2_with fail
 go_region_held3 (λc=>c.cell? (Hk n m)=some (Hp k)/\c.cell? (Hk 2<|k*4+1)=some (.bool b)) (go_keep)
  (first
   |(go_at_call 159;with_reducible refine s.o.mono ?_;rintro e d⟨v5,rfl,a,l⟩;have f2:=oB a h p;have f3:=oB a c1 r;have j:=Xa a;clear a)
   |(go_at_call 159;with_reducible refine u.o.mono ?_;rintro e d⟨v5,rfl,a,l⟩;have f2:=oB a h p;have f3:=oB a c1 r;have j:=Xa a;clear a))
 all_goals
  go_wp2;go_ret;exact⟨v5,rfl,j,l⟩
theorem BY(w:Ub)(i:Hs (Va w n m ⟨k,t,T,z⟩))(A:1<=k)(B:k<=3)(E:Hs (Yb w)):
 Calls prog 149 #[Ho n m] w λe q=>∃v,e=.returned v/\Below w.1.size w q/\q.ownsRow w.1.size 2 1 v (Id ⟨k,t,T,z⟩).length ((Id ⟨k,t,T,z⟩).map (Value.int .i64)):=by
 have s:=Xa<|tL i A B E;let⟨c,q1,q2,q3⟩:=i.o;simp only at c q1 q2 q3;have f:Hs (Id ⟨k,t,T,z⟩=if ((k:Int) != 1)then [t]else []):=Xa rfl;generalize Id ⟨k,t,T,z⟩=I at*;generalize ((k:Int) != 1)=b at*;have D:n<w.1.size:=aI w _ c
 go_in
 go_wp2_with fail
 refine s.mono ?_;rintro e J⟨v5,rfl,a,j⟩;obtain⟨K,c5,rfl,o⟩:=UO j;rw[bK];have C:n<J.1.size:=oN a.4
 have u:=Xa (KZ c5 I aA (Xa o) (Xa<|by rw[f.o];cases b<;>rfl) (Xa (by
  intro G h L;have F:=f.o;subst F;cases b;·exact absurd h<|by simp[Yd]
  match G,h with
  |0,_=>exact⟨C,oB a (Xa q1) D⟩)) (by cases b<;>simp[Yd]))
 have d:=Xa a;generalize (Yd [b] [(Hk n<|m+1)]).length=M at*;go_wp2_with fail
 refine u.mono ?_;rintro e N⟨H,rfl,g,l⟩;go_wp2;go_ret;exact⟨H,rfl,Xa<|Xg d g,Xa<|Zk l d.4⟩
def BW(x:Yg):Wc:=if dB x.1 then [x.2]else []
theorem UH(b:Nat)(g j k l:Int)(w:Ub)(N:Hs (Jk w b 0 ⟨n,g,j,k,l⟩))(K:1<=n)(L:n<=13)(F:Hs (Yy w)):
 Calls prog 123 #[Hn b] w λe d=>∃v,e=.returned v/\Below w.1.size w d/\d.ownsRow w.1.size 2 1 v (BW ⟨n,g,j,k,l⟩).length ((BW ⟨n,g,j,k,l⟩).map (Value.int .i64)):=by
 let⟨q,q1,q2,q3,q4⟩:=N.o;simp only at q q1 q2 q3 q4;let⟨c0,c1,c2,c3,c4⟩:=F.2 n K L;have t:=F.1;have o:b<w.1.size:=aI w _ q2;have r:Hs (BW ⟨n,g,j,k,l⟩=if dB (n:Int)then [g]else []):=Xa rfl;generalize BW ⟨n,g,j,k,l⟩=y at*;generalize dB (n:Int)=a at*;have C:=Xa q1;have s:Hs (∀(p m:Uy)(W:Ub),Below w.1.size w W->Zx W w.1.size W.1.size p ([a].map Value.bool)->Zx W w.1.size W.1.size m ([(Hk b 1)].map Tx)->Calls prog 159 #[.slice p 1 1,.slice m 1 1] W λe i=>∃f c5 m5,e=.returned (.slice f m5 c5)/\Below w.1.size w i /\
  Hs (Calls prog 166 #[.slice f m5 c5] i λe d=>∃v,e=.returned v/\Below w.1.size w d/\Hs (d.ownsRow w.1.size 2 1 v y.length<|y.map (Value.int .i64)))):=Xa (λp m W E O R=>by
  have ad:=E.4;refine(UA p m 1 1 [a] [(Hk b 1)] w.1.size W.1.size W aA (Xa O) (Xa R) (Xa rfl) sP).mono ?_;rintro e i⟨v5,rfl,c,P⟩;have s5:=c.4;have u:=Xg E c;obtain⟨f,c5,rfl,S⟩:=UO P;rw[bK];refine⟨f,c5,_,rfl,u,Xa ?_⟩;have V:=oB u C o;have M:b<i.1.size:=oM;refine(KZ c5 y aA (Xa S) (Xa ?_) (Xa ?_) ?_).mono ?_;·rw[r.o];cases a<;>rfl
  .intro U D Y;have T:=r.o;subst T;cases a;·exact absurd D<|by simp[Yd]
   match U,D with
   |0,_=>exact⟨M,V⟩
  .cases a<;>simp[Yd]
  rintro e X⟨x,rfl,h,Q⟩
  exact⟨x,rfl,Xg u h,Xa<|Zk Q oM⟩)
 have e2:∀z A,((w.alloc z).alloc A).drew.1.size=w.1.size+2:=λz A=>by show((w.alloc z).alloc A).1.size=_;simp
 have H:=Xa (s.o (some ⟨w.1.size,0,none⟩) (some ⟨w.1.size+1,0,none⟩) ((w.alloc<|.cells #[.bool a] 4).alloc (.cells #[Ho b 1] 266)).drew (Xb (Xb (Below.refl w.1.size w) _) _).drew (by rw[e2];exact J7 w [.bool a] 4 [Ho b 1] 266) (by rw[e2];exact J6 w [Ho b 1] 266 [.bool a] 4));have I:=Xa (s.o (some ⟨w.1.size+1,0,none⟩) (some ⟨w.1.size,0,none⟩) ((w.alloc<|.cells #[Ho b 1] 266).alloc (.cells #[.bool a] 4)).drew (Xb (Xb (Below.refl w.1.size w) _) _).drew (by rw[e2];exact J6 w [.bool a] 4 [Ho b 1] 266) (by rw[e2];exact J7 w [Ho b 1] 266 [.bool a] 4));have ab:(0:Int)<=(n:Int):=oM;have ac:(n:Int)<14:=oM
 go_in
 go_wp2_with fail
 go_region_held3 (λd=>d.cell? (Hk b 0)=some (Hp n)/\d.cell? (Hk 1<|n*5+1)=some (.bool a)) (go_keep)
  (first
   |(go_at_call 159;with_reducible refine H.o.mono ?_;rintro e i⟨f,c5,m5,rfl,c,B⟩;have f2:=oB c q o;have f3:=oB c c1 t;clear c)
   |(go_at_call 159;with_reducible refine I.o.mono ?_;rintro e i⟨f,c5,m5,rfl,c,B⟩;have f2:=oB c q o;have f3:=oB c c1 t;clear c)
   |(go_at_call 166;with_reducible refine B.o.mono ?_;rintro e X⟨x,rfl,h,J⟩;have Z:=oB h q o;have aa:=oB h c1 t;have G:=Xa h;clear h))
 all_goals
  go_wp2;go_ret;exact⟨x,rfl,G,J⟩
theorem KY{m' l':Nat}{args:Zh}{a:Ending->Vy}(h:YieldAt Fence.wide n R m args w a):YieldAt (Fence.wide.inRound l') m' R m args w a:=by
 let⟨g,tmps,d,e,i,b⟩:=h;exact⟨g,tmps,d,e,i,b.1,λc f _=>b.2 c f<|room_wide _⟩
structure Pl where
 i:Nat
 ua:Uy
 uc:Nat
 us:Wc
 da:Uy
 dc:Nat
 ds:Wc
def Pl.dat(p:Pl):Nat×Wc×Wc:=(p.i,p.4,p.7)
def pf(p:Pl):Zh:=#[.int .i64 (p.i:Int),.agg #[.slice p.2 p.4.length p.3,.slice p.5 p.7.length p.6]]
def og(a:Nat)(b:Nat×Wc×Wc->Prop)(p:Pl)(V:Ub):Prop:=b p.dat/\Xf V a V.1.size p.2 p.4/\Xf V a V.1.size p.5 p.7
def VH(x:Xe)(j:Fin x.2.length):Nat×Wc×Wc:=((j:Nat)+1,Iw<|x.2[j],BW<|x.2[j])
def NS(x:Xe):List (Nat×Wc×Wc):=(x.2.length+1,Id x.3,[])::((Us x.2.length 0).map (VH x)++[(0,[],x.1.map Ph.dst)])
theorem t6(x:Xe)(j:Fin x.2.length):VH x j∈NS x:=by
 refine cN _<|dD _ (List.mem_map_of_mem ?_);unfold Us;rw[aW sP];exact kU.2<|lX j
theorem tE(x:Xe):((0:Nat),([]:Wc),x.1.map Ph.dst)∈NS x:=cN _<|fB _ (cS.2 rfl)
theorem Yy.of_block(h:Yy w)(e:v.1[(1: Nat)]?=w.1[(1: Nat)]?)(c:w.1.size<=v.1.size):Yy v:=by
 refine⟨aX h.1 c,λi a b=>?_⟩;have e:=λo=>Xc (o:=o) e;simp only[e];exact h.2 i a b
theorem Yb.of_block(h:Yb w)(e:v.1[(2: Nat)]?=w.1[(2: Nat)]?)(c:w.1.size<=v.1.size):Yb v:=by
 refine⟨aX h.1 c,λi a b=>?_⟩;have e:=λo=>Xc (o:=o) e;simp only[e];exact h.2 i a b
structure P0(x:Xe)(L B Bx n₀:Nat)(V:Ub):Prop where
 op:Yy V
 ter:Yb V
 blk:Tk V L B Bx 0 x
 lt:Bx<n₀
 le:B<=n₀
 g1:1 < n₀
 g2:2 < n₀
theorem XO{a:Type}{J:a->Vy}(b:OwnFrom n J){s:a}(h:J s w)(k:Below w.1.size w v):J s v :=
 b s w v none h ⟨k.1,k.2,k.3,k.4,λi c _=>k.5 i c⟩ λr e=>by cases e
theorem YK{F:Fence}{b:Func}{tmps:Zh}{a:Ending->Vy}(c:w.1[m]?=some (.deferred (some [])))(h:∃v,(results b tmps).run R (w.putObj m<|.deferred none)=.ok v (w.putObj m<|.deferred none)/\a (.returned v) (w.putObj m<|.deferred none)):LeavesInM F n R b tmps a [{ target:=.collected m,args:=#[] }] .returning w :=
 ⟨sP,bC ⟨m,_,rfl,run_takeDeferred c,h⟩⟩
theorem oU(y:Yg):(Iw y).length<=2:=by unfold Iw;split<;>split<;>simp
section
attribute [local go_sem] Oper.semAt_some
structure UI(x:Xe)(L B Bx n₀ n₁:Nat)(V:Ub):Prop where
 op:Yy V
 ter:Yb V
 blk:Tk V L B Bx 0 x
 lt:Bx<n₁
 le:B<=n₀
 g1:1 < n₀
 g2:2 < n₀
 nn:n₀<=n₁
theorem UI.same{Bx:Nat}(h:UI q n m Bx k B w)(e:∀a,a<B->v.1[a]?=w.1[a]?)(b:w.1.size<=v.1.size):UI q n m Bx k B v :=
 ⟨h.1.of_block (e _<|aX h.6 h.8) b,h.2.of_block (e _<|aX h.7 h.8) b,h.3.keepS (λa _ c=>e a<|aX (aX c h.5) h.8) (e _ h.4),h.4,h.5,h.6,h.7,h.8⟩
theorem UI.below{Bx:Nat}(h:UI q n m Bx k B w)(a:Below w.1.size w v)(c:B<=w.1.size):UI q n m Bx k B v:=h.same (λi b=>a.5 i oM) a.4
theorem UI.kp{Bx:Nat}(h:UI q n m Bx k B w)(a:Zf k d w v)(f:∀a,n<=a->a<m->¬d a)(l:¬d Bx)(g:¬d 1)(j:¬d 2):UI q n m Bx k B v:=by
 have o:v.1[Bx]?=w.1[Bx]?:=by
  let⟨s,t,p,r,c,_⟩:=h.3;exact a.block c l
 exact⟨h.1.of_block (a.2 _ h.6 g) a.1,h.2.of_block (a.2 _ h.7 j) a.1,h.3.keepS (λi e b=>a.2 i (aX b h.5) (f i e b)) o,h.4,h.5,h.6,h.7,h.8⟩
end
section
variable {F: Fence} {n: Nat} {P: Yh} {α: Type}
theorem Ze.keepsF{W V:Ub}{D:Nat}{r:Loop}(h:Ze W D r)(k:KeepsFrom D W V):Ze V D r:=⟨k.2 _ _ oM h.1 rfl,k.2 _ _ aA h.2 rfl⟩
theorem JE{A V:Ub}{B a:Nat}(h:KeepsFrom B A V)(e:B<=a):KeepsFrom a A V:=⟨h.1,λk o d b c=>h.2 k o oM b c⟩
end
section
variable {F: Fence} {n: Nat} {P: Yh} {α: Type}
def lf(F:Fence)(n:Nat)(P:Yh)(j:Nat)(k:Zh)(i:Nat->α->Zh)(h:Nat->α->Vy)(d:Ub->Vy)(S Sp:List α->Prop)(N:Nat)(turn m:Prop)(w:Ub):Prop :=
 ∀(l:Nat)(J:Nat->List α->Vy)(c:List α->Vy)(W:Ub),Below w.1.size w W->l<W.1.size->(∀z,OwnFrom W.1.size<|J z)->OwnFrom W.1.size c->(turn->∀z s V a,W.1.size<=z->J z s V->V.grownBy a (some z)->J z s a) ->
  (m->(∀z g s V a,W.1.size<=g->J z s V->Below W.1.size V a->J g s a)/\∀s V a,c s V->Below W.1.size V a->c s a) ->
  (∀z b x V,W.1.size<=z->J z b V->h z x V->b.length<N->YieldAt F (n-1) P l (i z x) V λe a=>(e=.returned (.bool true)/\J z (b++[x]) a/\d V a/\KeepsFrom W.1.size V a)\/(e=.returned (.bool false)/\c (b++[x]) a/\d V a/\KeepsFrom W.1.size V a)) ->
  (∀z V,W.1.size<=z->z<V.1.size->Below W.1.size W V->J z [] V)->CallsIn F n P j (#[.func (.yield l) #[] #[]]++k) W λe V=>(∃v,e=.returned v)/\((∃z f,W.1.size<=z/\S f/\J z f V)\/∃b,Sp b/\c b V)
def DT{α:Type}(B:Nat)(a:World->World->Prop)(I:List α->World->Prop)(c:Code->List α->World->Prop)(b:List α)(W:World):Exit->Act->World->Prop
 |.normal,_,W'=>KeepsFrom B W W'/\a W W'/\I b W'
 |.ret,_,W'=>KeepsFrom B W W'/\a W W'/\c .ret b W'
 |.exit id,_,W'=>KeepsFrom B W W'/\a W W'/\c (.exit id) b W'
 |.goto t,_,W'=>KeepsFrom B W W'/\a W W'/\c (.goto t) b W'
 |.panic _,_,_=>False
 |.outgrown,_,_=>False
theorem nX{ao:Operand}{j:Array Tmp}{l m:Code}{Z:Yt}{e:Act}{w:Ub}(br:F.4=none)(h1:1<=n){gf:Nat}{lb:Zh}(hg:e.eval ao=.func (.func gf) #[] lb)(a8:F.1 gf)(eg:∀args w,(callFunc gf args).run P w=.ok (.enter gf args) w){aa:Nat->α->Zh}{G:Nat->α->Vy}{B:Ub->Vy}{al Sp:List α->Prop}{aj:Nat}{turn a5:Prop}{w0:Ub}(bt:lf F (n-1) P gf lb aa G B al Sp aj turn a5 w0)(ba:∀z,OwnFrom w.1.size<|G z)(v:∀{A ac ad:Ub},B A ac->B ac ad->B A ad)(J:∀(W:Ub)(y:Nat)(o o':Obj),w.1.size<=y->W.1[y]?=some o->o.isCells=false->B W (W.putObj y o'))(ar:Below w0.1.size w0 w)(bn:∀z x,(aa z x).size=j.size)(I:Nat->List α->Vy)(C:Code->List α->Vy)(M:∀z,OwnFrom w.1.size<|I z)(H:∀c,OwnFrom w.1.size<|C c)(a9:turn->∀z s V g,w.1.size<=z->I z s V->V.grownBy g (some z)->I z s g)(a2:a5->(∀z X s V g,w.1.size<=X->I z s V->Below (w.1.size+2) V g->I X s g)/\∀c s V g,C c s V->Below (w.1.size+2) V g->C c s g)(h0:∀z V,w.1.size<=z->z<V.1.size->Below w.1.size w V->I z [] V)(Y:Nat->α->Tf)(a6:∀z x u,OwnFrom w.1.size λ(_:Unit) W=>Y z x u W)(bc:∀(y z:Nat)(d:List α)(x:α)(W:Ub)(af:Tf),w.1.size<=z->I z d W->G z x W->(∀u q,KeepsOthers W q->B W q->I z d q->G z x q->Y z x u q->af u q)->l.wpIn (F.inRound y) (n-1-1) P (Exit.then af λ_ _ _=>False) { tmps:=(j.zip<|aa z x).foldl (λT (p,a4)=>T.setIfInBounds p a4) e.1,defers:=[] } W)(be:∀(y z:Nat)(d:List α)(x:α)(u:Act)(W:Ub),w.1.size<=z->w.1.size<=y->(∃S,W.1[y]?=some (.loop S))->I z d W->G z x W->Y z x u W->d.length<aj->m.wpIn (F.inRound y) (n-1-1) P (DT w.1.size B (I z) C (d++[x]) W) u W)(bf:∀(D z:Nat)(U:List α)(W:Ub),w.1.size<=D->w.1.size<=z->al U->I z U W->W.1[D]?=some (.deferred (some []))->Z .normal { e with defers:={ target:=.collected D,args:=#[] }:: e.2 } W)(bv:∀(D:Nat)(c:Code)(d:List α)(W:Ub),w.1.size<=D->Sp d->C c d W->W.1[D]?=some (.deferred (some []))->c.wpIn F n P Z { e with defers:={ target:=.collected D,args:=#[] }:: e.2 } W):
 (Code.rangeFunc ao j l m).wpIn F n P Z e w:=by
 refine wpIn_rangeFunc λfn bh=>?_;rw[br];have a1:=run_enterLoop_outer (P:=P) (w:=w) fn e.1 j l m;generalize N:(w.alloc<|.deferred (some [])).alloc (.loop { state:=.ready,pending:=none,fn,tmps:=e.1,params:=j,assign:=l,body:=m,defers:=w.1.size })=t at a1;have aq:Ze t w.1.size (KR fn e.1 j l m w.1.size .ready none):=by
  subst N;refine⟨?_,?_⟩
  .have:=World.alloc_heap_new (w.alloc<|.deferred (some [])) (.loop (KR fn e.1 j l m w.1.size .ready none));rwa[aO]at this
  exact(Below.heap_alloc _ _ _ sP).trans (World.alloc_heap_new w _)
 have b1:t.1.size=w.1.size+2:=by subst N;simp
 have ap:Below w.1.size w t:=by subst N;exact Xb (Xb (Below.refl w.1.size w) _) _
 have a7:=ar.trans<|ap.mono ar.4;clear N;refine⟨_,_,t,{ target:=.fn (.func gf) lb,args:=#[.func (.yield (w.1.size+1)) #[] #[]] },t,gf,#[.func (.yield (w.1.size+1)) #[] #[]]++lb,t,a1,?_,?_,?_,λ_=>h1,?_⟩
 .simp only[resolve,hg];simp[go_sem]
 .intro f' az;simp[Target.leads]at az;subst az;exact a8
 .simp[invoke,go_sem,eg]
 have ow:∀{S:Loop}{A V:Ub}{row:Zm},Ze A w.1.size S->A.grownBy V row->(∀k,row=some k->t.1.size<=k/\∃o:Obj,A.1[k]?=some o/\o.isCells=false)->Ze V w.1.size S:=λab k r=>ab.own k (λz h=>by have:=(r z h).1;omega);have fr:∀{A:Ub}{row:Zm},(∀k,row=some k->t.1.size<=k/\∃o:Obj,A.1[k]?=some o/\o.isCells=false)->∀k,row=some k->w.1.size<=k/\∃o:Obj,A.1[k]?=some o/\o.isCells=false:=λr k h=>⟨oN<|(r k h).1,(r k h).2⟩
 refine(bt (w.1.size+1) (λz d W=>I z d W/\Ze W w.1.size (KR fn e.1 j l m w.1.size .ready none)) (λd W=>∃c,C c d W/\Ze W w.1.size (KR fn e.1 j l m w.1.size .done<|some c)) t a7 oM
  (λz s A V row i k r=>⟨M z s A V row i.1 k<|fr r,ow i.2 k r⟩) (λs A V row i k r=>by let⟨c,hc,f⟩:=i;exact⟨c,H c s A V row hc k<|fr r,ow f k r⟩) (λht z s V g Q i k=>⟨a9 ht z s V g oM i.1 k,i.2.own k λr h=>by injection h with h;omega⟩)
  (λa=>⟨λz X s V g Q i k=>⟨(a2 a).1 z X s V g oM i.1 (k.mono oM),⟨(k.5 _ oM).trans i.2.1,(k.5 _ oM).trans i.2.2⟩⟩,λs V g i k=>by let⟨c,hc,f⟩:=i;exact⟨c,(a2 a).2 c s V g hc (k.mono oM),⟨(k.5 _ oM).trans f.1,(k.5 _ oM).trans f.2⟩⟩⟩) ?_ λz V Q bx hV=>⟨h0 z V oM bx<|ap.trans (hV.mono oM),⟨(hV.5 _ oM).trans aq.1,(hV.5 _ oM).trans aq.2⟩⟩).mono ?_
 .rintro z d x W Q⟨K,f⟩ bp bm;have hy:=run_yield (P:=P) f.1 (bn z x);refine⟨_,_,_,_,hy,roundIn_of_wpIn bh<|bc _ z d x W _ oM K bp λu q a0 bl bi bq bd=>?_⟩;have E:=f.keeps a0;refine⟨_,run_beginRound E.1 rfl,?_⟩;have L:Ze (q.putObj (w.1.size+1) (.loop (KR fn e.1 j l m w.1.size .busy none))) w.1.size (KR fn e.1 j l m w.1.size .busy none):=E.put _;have O:B W (q.putObj (w.1.size+1) (.loop (KR fn e.1 j l m w.1.size .busy none))):=v bl<|J _ _ _ _ oM E.1 rfl;refine wpIn_mono (be _ z d x u _ oM oM ⟨_,L.1⟩ ((M z).putObj _ bi oM E.1 rfl) ((ba z).putObj _ bq oM E.1 rfl) ((a6 z x u).putObj (s:=()) _ bd oM E.1 rfl) bm) ?_;have R:∀{V:Ub}(o:Obj),KeepsFrom w.1.size (q.putObj (w.1.size+1) (.loop (KR fn e.1 j l m w.1.size .busy none))) V->KeepsFrom t.1.size W (V.putObj (w.1.size+1) o):=λ{V} o ab=>(((a0.from _).trans (KeepsFrom.of_grownBy (grownBy_putObj' q _ _) λb0 h=>by cases h;omega)).trans (JE ab oM)).trans (KeepsFrom.of_grownBy (grownBy_putObj' V _ _) λb0 h=>by cases h;omega);rintro h a3 V b;cases h with
  |normal=>
   have a:=L.keepsF b.1;exact⟨_,_,a.fin none,.inl ⟨rfl,⟨(M z).putObj _ b.2.2 oM a.1 rfl,a.put _⟩,v (v O b.2.1) (J _ _ _ _ oM a.1 rfl),R _ b.1⟩⟩
  |ret=>
   have a:=L.keepsF b.1;exact⟨_,_,a.fin<|some .ret,.inr ⟨rfl,⟨.ret,(H _).putObj _ b.2.2 oM a.1 rfl,a.put _⟩,v (v O b.2.1) (J _ _ _ _ oM a.1 rfl),R _ b.1⟩⟩
  |exit id=>
   have a:=L.keepsF b.1;exact⟨_,_,a.fin<|some (.exit id),.inr ⟨rfl,⟨.exit id,(H _).putObj _ b.2.2 oM a.1 rfl,a.put _⟩,v (v O b.2.1) (J _ _ _ _ oM a.1 rfl),R _ b.1⟩⟩
  |goto T=>
   have a:=L.keepsF b.1;exact⟨_,_,a.fin<|some (.goto T),.inr ⟨rfl,⟨.goto T,(H _).putObj _ b.2.2 oM a.1 rfl,a.put _⟩,v (v O b.2.1) (J _ _ _ _ oM a.1 rfl),R _ b.1⟩⟩
  |panic ch=>exact b.elim
  |outgrown=>exact b.elim
 rintro h V⟨⟨a4,rfl⟩,(⟨z,U,Q,hS,K,f⟩|⟨d,bb,c,K,f⟩)⟩;·exact⟨none,_,run_endLoop f.1 (by simp[KR]),bf _ z U _ aA oM hS ((M z).putObj _ K oM f.1 rfl) (f.put _).2⟩
 exact⟨some c,_,run_endLoop f.1 (by simp[KR]),bv _ c d _ aA bb ((H c).putObj _ K oM f.1 rfl) (f.put _).2⟩
end
theorem Bu(n k:Nat):Us n k <+: Us n 0:=by
 unfold Us;rw[show n-0=n by omega,aW (by simp:(List.finRange n).reverse.length<=n)];exact List.take_prefix _ _
theorem ED{F:Fence}(G:F.1 181)(T:F.4=none)(Y:1<=n)(C:Nat)(j:Vv)(r:Uy){a:Vr}(Z:a.length<=1000000)(L:∀b,g<=b->b<i->¬j b)(M:¬j k)(J p:List (Fin a.length)->Vy)(O:∀(d:List (Fin a.length))(x:Fin a.length)(w:Ub),J d w->d.length<a.length->YieldAt F (n-1) prog m #[Hp ((x:Nat):Int),mj a[x]] w λf e=>
  (f=.returned (.bool true)/\J (d++[x]) e/\Zf B j w e)\/(f=.returned (.bool false)/\p (d++[x]) e))(H:w.cell? (Hk k 0)=some (.slice r a.length C))(P:Hs (YY w g i r a))(E:J [] w):
 CallsIn F n prog 181 #[.func (.yield m) #[] #[],Hn k] w λf e=>(∃U,f=.returned U) /\
  ((∃y,y=Us a.length 0/\J y e)\/(∃d,(∃q,d=Us a.length q)/\p d e)):=by
 refine iD func181 rfl G ?_ T;simp only[ntmps181,xY,Nat.reduceAdd,Nat.reduceSub];gi_wp2
 gi_loopw [3] (λo wr=>∃(b:Nat)(z:Int),b<=a.length/\o=Hp z/\z+1=(b:Int)/\J (Us a.length b) wr/\Zf B j w wr)
  (λo _=>(intOf o+1).toNat)
 case atStart=>exact⟨a.length,_,aA,rfl,oM,by rw[Ua];exact E,Zf.refl _⟩
 obtain⟨b,z,R,rfl,ab,s,c⟩:=hrel;have X:=c.cell H M;cases b with
 |zero=>
  have l:z=-1:=oM;subst l;gi_wp2
  go_end0
  exact⟨⟨_,rfl⟩,.inl ⟨_,rfl,s⟩⟩
 |succ q=>
  have l:z=(q:Int):=oM;subst l;have hq:q<a.length:=R;let⟨A,ac,D,t,Q⟩:=P q hq;subst D;have h:=L A t.1 t.2;let⟨v,q1,q2,q3,q4⟩:=Q;have r0:=c.cell v h;have r1:=c.cell q1 h;have r2:=c.cell q2 h;have r3:=c.cell q3 h;have r4:=c.cell q4 h;let⟨W,tmps,assign,body,u,N⟩:=O _ ⟨q,hq⟩ wr s (by rw[Vf];omega);have aa:(Instr.yield m #[Hp ((q:Nat):Int),.agg #[Hp a[q].1,Hp a[q].2,Hp a[q].a,Hp a[q].b,Hp a[q].5]]).run prog wr=_:=u;gi_wp2;refine N.mono ?_;rintro f V (⟨rfl,I,S⟩|⟨rfl,K⟩)
  .gi_wp2
   go_roundw
   case rel=>exact⟨q,_,oM,rfl,oM,by rw[TJ hq];exact I,c.trans S⟩
   simp[intOf]
  gi_wp2;refine cC (gV rfl _ _ _) rfl ?_;exact⟨⟨_,rfl⟩,.inr ⟨_,⟨q,(TJ hq).symm⟩,K⟩⟩
theorem VE(F:Fence)(e:Nat)(i:F.1 181)(v:F.4=none)(t:1<=e)(c:Vv){a:Vr}(u:a.length<=1000000)(D:g<=m)(o:∀b,B<=b->b<g->¬c b)(q:¬c n)(E:m<=w.1.size)(j:n<w.1.size)(s:w.cell? (Hk n 0)=some (.slice p a.length k))(l:Hs (YY w B g p a)):
 SeqStopsK F e prog 181 #[Hn n] (λx:Fin a.length=>#[Hp ((x:Nat):Int),mj a[x]]) (Zf m c) (λA=>A=Us a.length 0) (λy=>∃z,y=Us a.length z) a.length w:=λG J f W d _ _ r h=>
 ED i v t k c p u o q J f r (oB d s j) (Xa<|l.keepS λb _ C=>d.5 b oM) h
section
structure HK(w:Ub)(g K C:Nat)(W:Ym):Prop where
 le:K<=C
 ex:∃T:Vu,w.rowIs g 2 C λi=>if i<K then .int .i64 (W i)else T i
namespace HK
variable {w: Ub} {g K C: Nat} {W W': Nat -> Int}
theorem lt(h:HK w g K C W):g<w.1.size:=by
 let⟨_,T,h⟩:=h;exact h.lt
theorem cell(h:HK w g K C W){i:Nat}(a:i<K):w.cell? (Hk g i)=some (Hp<|W i):=by
 let⟨b,T,h⟩:=h;have:=h.cell (i:=i) oM;rwa[aU a]at this
theorem frozen(h:HK w g K C W)(i:Nat):w.frozen? (Hk g i)=false:=by
 let⟨_,T,h⟩:=h;exact h.frozen i
theorem congr(h:HK w g K C W)(e:∀i,i<K->W i=W' i):HK w g K C W':=by
 let⟨b,T,h⟩:=h;refine⟨b,T,h.congr λi _=>?_⟩;by_cases a:i<K;·rw[aU a,aU a,e i a]
 rw[aM a,aM a]
theorem of_block{a:Ub}(h:HK w g K C W)(e:a.1[g]?=w.1[g]?):HK a g K C W:=by
 let⟨b,T,h⟩:=h;exact⟨b,T,h.of_block e⟩
theorem set(h:HK w g K C W)(i:Nat)(v:Int)(b:i<K):HK (w.setCell ⟨g,i,none⟩ (.int .i64 v)) g K C (λj=>if j=i then v else W j):=by
 let⟨a,T,h⟩:=h;refine⟨a,T,(h.set i _).congr λj _=>?_⟩;by_cases e:j=i;·rw[aU e,aU oM,aU e]
 rw[aM e,aM e]
theorem setOther(h:HK w g K C W){a:Addr}(ha:g≠a.1)(v:Uj):HK (w.setCell a v) g K C W:=by
 let⟨b,T,h⟩:=h;exact⟨b,T,h.setOther ha v⟩
theorem alloc(h:HK w g K C W)(o:Obj):HK (w.alloc o) g K C W:=by
 let⟨a,T,h⟩:=h;exact⟨a,T,h.alloc o⟩
theorem of_row(h:w.rowIs g 2 K λi=>Hp<|W i):HK w g K K W :=
 ⟨aA,λ_=>Hp 0,h.congr λi a=>by rw[aU a]⟩
theorem of_own{c:Nat}{v:Uj}{a:Wc}(h:w.ownsRow c 2 1 v a.length (a.map<|Value.int .i64))(p:v≠.slice none 0 0):∃g C,v=.slice (some ⟨g,0,none⟩) a.length C/\c<=g/\HK w g a.length C (λi=>a.getD i 0):=by
 obtain⟨o,h|⟨g,k,b,rfl,m,n,l,_,f,j⟩⟩:=h;·exact absurd h.1 p
 simp only[iN]at o f j;refine⟨g,k,rfl,m,l,λi=>b[i]?.getD (Hp 0),b,n,f,λi q=>?_⟩;show b[i]?=some (if i<a.length then Hp (a.getD i 0)else b[i]?.getD (Hp 0));by_cases e:i<a.length
 .rw[aU e];have d:(b.1.take a.length)[i]?=some (Hp a[i]):=by rw[j];simp[e]
  rw[fH e]at d;have e2:a.getD i 0=a[i]:=by simp[e]
  rw[e2];simpa using d
 rw[aM e];have:i<b.size:=oM;simp[this]
end HK
end
end Go.Proofs.YtcfdhbigppockaaGreatDoor
