import Derived.Test.YtghnlncgiihhgaaGreatDoorSLR
import Derived.OrdersIn
import Derived.OrdersHeld
namespace Go.Proofs.YtghnlncgiihhgaaGreatDoor
set_option maxHeartbeats 2000000
set_option maxRecDepth 100000
open Go.RowKit Go.Proofs.Tryz Go.Shelf
variable{r:Bool}{t T z:Int}{l:List Int}{x:List Xe}{n m B:Nat}{d:Nat->Prop}{R:Program}{a:Value}{w v u:World}{q:Xe}
section
section
variable {w1 w2 wr wr' : World} {U V : Nat -> Value} {Pr : Nat -> List Int} {bp b1 : Nat} {p1 : Option Addr} {c1 b2 : Nat} {p2 : Option Addr} {c2 : Nat}
end
theorem UF.ex{a:List Xe}(h:UF a):∀b,b<a.length->(∃c,Idm (X8 a) c b)\/∀d,JO (X8 a) d b->d=b:=fun b e=>by
 classical
 have f:∀b,b<a.length->∀x,x<a.length->(Xh (addsN (fun _=>0) ((List.range a.length).filter fun x=>decide (Av (X8 a) x b))) x=true↔Av (X8 a) x b):=fun b _ x g=>by
  rw[YR,Z3,jU,bD,fG,bE,bD];exact⟨fun q=>q.2,fun q=>⟨g,q⟩⟩
 have:=UR h.top.2.2.1 h.top.1 h.re h.top.2.2.2 (Ws:=fun b=>addsN (fun _=>0) ((List.range a.length).filter fun x=>decide (Av (X8 a) x b))) f;rcases this.get b e with⟨c,ha,_⟩ | ⟨q,_⟩
 ·exact bC ⟨c,ha⟩
 ·exact aZ q
theorem UF.model{a:List Xe}(h:UF a):YX (X8 a) a.length ((List.range a.length).map (idomP ((List.range a.length).map (Zq (X8 a) a.length)))):=Wf h.re h.ex
end
section
structure IaAt(w:World)(g K C:Nat)(W:Nat->Int):Prop where
 le:K<=C
 ex:∃T:Nat->Value,w.rowIs g 2 C (fun i=>if i<K then .int .i64 (W i)else T i)
namespace IaAt
variable {w : World} {g K C : Nat} {W W' : Nat -> Int}
theorem lt(h:IaAt w g K C W):g<w.heap.size:=by
 obtain⟨_,T,h⟩:=h;exact h.lt
theorem cell(h:IaAt w g K C W){i:Nat}(a:i<K):w.cell? ⟨g,i,none⟩=some (.int .i64 (W i)):=by
 obtain⟨b,T,h⟩:=h;have:=h.cell (i:=i) oM;rwa[aU a]at this
theorem frozen(h:IaAt w g K C W)(i:Nat):w.frozen? ⟨g,i,none⟩=false:=by
 obtain⟨_,T,h⟩:=h;exact h.frozen i
theorem congr(h:IaAt w g K C W)(e:∀i,i<K->W i=W' i):IaAt w g K C W':=by
 obtain⟨b,T,h⟩:=h;refine⟨b,T,h.congr (fun i _=>?_)⟩;by_cases a:i<K
 ·rw[aU a,aU a,e i a]
 ·rw[aM a,aM a]
theorem of_block{a:World}(h:IaAt w g K C W)(e:a.heap[g]?=w.heap[g]?):IaAt a g K C W:=by
 obtain⟨b,T,h⟩:=h;exact⟨b,T,h.of_block e⟩
theorem set(h:IaAt w g K C W)(i:Nat)(v:Int)(b:i<K):IaAt (w.setCell ⟨g,i,none⟩ (.int .i64 v)) g K C (fun j=>if j=i then v else W j):=by
 obtain⟨a,T,h⟩:=h;refine⟨a,T,(h.set i _).congr (fun j _=>?_)⟩;by_cases e:j=i
 ·rw[aU e,aU oM,aU e]
 ·rw[aM e,aM e]
theorem setOther(h:IaAt w g K C W){a:Addr}(ha:g≠a.block)(v:Value):IaAt (w.setCell a v) g K C W:=by
 obtain⟨b,T,h⟩:=h;exact⟨b,T,h.setOther ha v⟩
theorem alloc(h:IaAt w g K C W)(o:Obj):IaAt (w.alloc o) g K C W:=by
 obtain⟨a,T,h⟩:=h;exact⟨a,T,h.alloc o⟩
theorem drew(h:IaAt w g K C W):IaAt w.drew g K C W:=by
 obtain⟨a,T,h⟩:=h;exact⟨a,T,h.drew⟩
theorem of_row(h:w.rowIs g 2 K (fun i=>.int .i64 (W i))):IaAt w g K K W :=
 ⟨aA _,fun _=>.int .i64 0,h.congr (fun i a=>by rw[aU a])⟩
theorem of_own{c:Nat}{v:Value}{a:List Int}(h:w.ownsRow c 2 1 v a.length (a.map (Value.int .i64)))(p:v≠.slice none 0 0):∃g C,v=.slice (some ⟨g,0,none⟩) a.length C/\c<=g/\IaAt w g a.length C (fun i=>a.getD i 0):=by
 obtain⟨o,h | ⟨g,k,b,rfl,m,n,l,_,f,j⟩⟩:=h
 ·exact absurd h.1 p
 ·simp only[iN]at o f j
  refine⟨g,k,rfl,m,l,fun i=>b[i]?.getD (.int .i64 0),b,n,f,fun i q=>?_⟩;show b[i]?=some (if i<a.length then Value.int .i64 (a.getD i 0)else b[i]?.getD (.int .i64 0));by_cases e:i<a.length
  ·rw[aU e]
   have d:(b.toList.take a.length)[i]?=some (Value.int .i64 a[i]):=by rw[j];simp[e]
   rw[fH e]at d;have e2:a.getD i 0=a[i]:=by simp[e]
   rw[e2];simpa using d
  ·rw[aM e]
   have:i<b.size:=oM;simp[this]
end IaAt
end
theorem xx(d:Option Addr)(m g:Nat)(a:List UInt8)(i n:Nat)(L B:Nat)(w:World)(ha:Hid (Yx w L B d a))(t:Hid (m=a.length))(E:m<=1048576)(p:i<=100000)(F:n<=1000000) :
 Calls prog 12 #[.slice d m g,.int .i64 (i:Int),.int .i64 (n:Int)] w fun j u=>∃r:Nat,j=.returned (.int .i64 (r:Int))/\(1<=n->r<n)/\Below w.heap.size w u:=by
 by_cases x:n<=1
 ·have l:(n:Int)<=1:=oM
  go_in
  go_wp2
  go_ret
  exact⟨0,rfl,oM,Below.refl _ _⟩
 ·have l:¬(n:Int)<=1:=oM
  by_cases k:m=0
  ·subst k
   have H:((i:Int)*7).tmod (n:Int)=(((i*7) % n:Nat):Int):=by
    rw[eW oM];rw[kW];rfl
   have q:((n:Int)==0)=false:=by simp;omega
   have c:(i*7) % n<n:=dS _ oM
   go_in
   go_wp2
   go_ret
   exact⟨(i*7) % n,by rw[kW,Int.natCast_mul];rfl,fun _=>c,Below.refl _ _⟩
  ·have v:((m:Int)==0)=false:=by simp;omega
   have e:0<m:=oM;have hq:i % m<a.length:=by rw[<-t.out];exact dS _ e
   obtain⟨b,I,rfl,y,C⟩:=ha (i % m) hq;have A:a[i % m].toNat<256:=lQ _;have e1:(i:Int).tmod (m:Int)=((i % m:Nat):Int):=by rw[eW oM,kW]
   have e2:(i:Int).tdiv (m:Int)=((i / m:Nat):Int):=by rw[fY oM,Int.natCast_ediv]
   have G:i % m<m:=dS _ e;have D:i / m<=100000:=aJ (Nat.div_le_self _ _) p;generalize a[i % m].toNat=z at *;have e3:((z:Int)+((i / m:Nat):Int)).tmod (n:Int)=(((z+i / m) % n:Nat):Int):=by
    rw[eW (Int.add_nonneg (kF _) (kF _)),kW,kB]
   have c:(z+i / m) % n<n:=dS _ oM;have f:=Xa c;clear c;generalize s:i % m=J at *;generalize o:i / m=h at *;generalize (z+h) % n=r at *;have q:((n:Int)==0)=false:=by simp;omega
   clear s o
   go_in
   go_wp2
   go_region
   go_wp2
   go_ret
   exact⟨r,rfl,fun _=>f,(Below.refl _ _).drew⟩
section
variable {F : Fence} {n : Nat} {P : Program} {α : Type}
def gn(F:Fence)(n:Nat)(P:Program)(h:Nat)(i:Array Value)(g:α->Array Value)(f:α->World->Prop)(d:World->World->Prop)(S:List α->Prop)(N:Nat)(w:World):Prop :=
 ∀(l:Nat)(J:List α->World->Prop)(W:World),Below w.heap.size w W->l<W.heap.size->OwnFrom W.heap.size J ->
  (∀b x V,J b V->f x V->b.length<N->YieldAt F (n-1) P l (g x) V fun e a=>e=.returned (.bool true)/\J (b++[x]) a/\d V a/\KeepsFrom W.heap.size V a) ->
  J [] W->CallsIn F n P h (#[.func (.yield l) #[] #[]]++i) W fun e V=>(∃v,e=.returned v)/\∃c,S c/\J c V
def KR(fn:FuncId)(f:Array Value)(d:Array Tmp)(a b:Code)(D:Nat)(e:LoopState)(c:Option Code):Loop:={ state:=e,pending:=c,fn,tmps:=f,params:=d,assign:=a,body:=b,defers:=D }
def Ze(W:World)(D:Nat)(r:Loop):Prop:=W.heap[D+1]?=some (.loop r)/\W.heap[D]?=some (.deferred (some []))
theorem Ze.put{W:World}{D:Nat}{r:Loop}(h:Ze W D r)(a:Loop):Ze (W.putObj (D+1) (.loop a)) D a :=
 ⟨World.putObj_heap_same (aS.1 h.1).1,(World.putObj_heap_other oM).trans h.2⟩
theorem Ze.own{W V:World}{D:Nat}{r:Loop}{row:Option Nat}(h:Ze W D r)(g:W.grownBy V row)(a:∀k,row=some k->D+2<=k):Ze V D r :=
 ⟨(g.block _ (aS.1 h.1).1 (fun e=>by have:=a _ e.symm;omega)).trans h.1,(g.block _ (aS.1 h.2).1 (fun e=>by have:=a _ e.symm;omega)).trans h.2⟩
theorem Ze.keeps{W V:World}{D:Nat}{r:Loop}(h:Ze W D r)(k:KeepsOthers W V):Ze V D r:=⟨k.same _ _ h.1 rfl,k.same _ _ h.2 rfl⟩
theorem Ze.fin{W:World}{D:Nat}{fn:FuncId}{d:Array Value}{c:Array Tmp}{a b:Code}(h:Ze W D (KR fn d c a b D .busy none))(j:Option Code):(Instr.endRound (D+1) j).run P W=.ok (.bool j.isNone) (W.putObj (D+1) (.loop (KR fn d c a b D (if j.isNone then .ready else .done) j))):=run_endRound j h.1
theorem qN{M:Operand}{c:Array Tmp}{h i:Code}{Q:Exit->Act->World->Prop}{a:Act}{w:World}(ba:F.round=none)(h1:1<=n){gf:Nat}{lb:Array Value}(hg:a.eval M=.func (.func gf) #[] lb)(aj:F.fn gf)(eg:∀args w,(callFunc gf args).run P w=.ok (.enter gf args) w)
 {E:α->Array Value} {u:α->World->Prop} {l:World->World->Prop} {S:List α->Prop} {N:Nat} {y:World} (bb:gn F (n-1) P gf lb E u l S N y) (ap:OwnFrom w.heap.size u) (G:∀{A J K:World},l A J->l J K->l A K) (O:∀(W:World)(m:Nat)(o o':Obj),w.heap.size<=m->W.heap[m]?=some o->o.isCells=false->l W (W.putObj m o')) (R:Below y.heap.size y w) (a6:∀x,(E x).size=c.size)
 (I:List α->World->Prop) (r:OwnFrom w.heap.size I) (h0:I [] w) (C:α->Act->World->Prop) (ad:∀x g,OwnFrom w.heap.size (fun (_:Unit) W=>C x g W))
 (ar:∀(m:Nat)(b:List α)(x:α)(W:World)(L:Act->World->Prop),I b W->u x W->(∀g d,KeepsOthers W d->l W d->I b d->u x d->C x g d->L g d)->h.wpIn (F.inRound m) (n-1-1) P (Exit.then L (fun _ _ _=>False)) { tmps:=(c.zip (E x)).foldl (fun aa (p,ab)=>aa.setIfInBounds p ab) a.tmps,defers:=[] } W)
 (ay:∀(m:Nat)(b:List α)(x:α)(g:Act)(W:World),I b W->u x W->C x g W->b.length<N->i.wpIn (F.inRound m) (n-1-1) P (ownPostK l I (fun _ _ _=>False) (b++[x]) W) g W)
 (az:∀(D:Nat)(B:List α)(W:World),w.heap.size<=D->S B->I B W->W.heap[D]?=some (.deferred (some []))->Q .normal { a with defers:={ target:=.collected D,args:=#[] } :: a.defers } W) :
 (Code.rangeFunc M c h i).wpIn F n P Q a w:=by
 refine wpIn_rangeFunc (fun fn a0=>?_);rw[ba];have X:=run_enterLoop_outer (P:=P) (w:=w) fn a.tmps c h i;generalize v:(w.alloc (.deferred (some []))).alloc (.loop { state:=.ready,pending:=none,fn,tmps:=a.tmps,params:=c,assign:=h,body:=i,defers:=w.heap.size })=f at X;have aq:Ze f w.heap.size (KR fn a.tmps c h i w.heap.size .ready none):=by
  subst v;refine⟨?_,?_⟩
  ·have:=World.alloc_heap_new (w.alloc (.deferred (some []))) (.loop (KR fn a.tmps c h i w.heap.size .ready none))
   rwa[aO]at this
  ·exact(Below.heap_alloc _ _ _ sP).trans (World.alloc_heap_new w _)
 have bi:f.heap.size=w.heap.size+2:=by subst v;simp
 have al:I [] f:=by subst v;exact r.alloc _ (r.alloc _ h0)
 have af:Below y.heap.size y f:=by
  subst v;exact R.trans ((Xb (Xb (Below.refl w.heap.size w) _) _).mono R.size)
 clear v;refine⟨_,_,f,{ target:=.fn (.func gf) lb,args:=#[.func (.yield (w.heap.size+1)) #[] #[]] },f,gf,#[.func (.yield (w.heap.size+1)) #[] #[]]++lb,f,X,?_,?_,?_,fun _=>h1,?_⟩
 ·simp only[resolve,hg]
  simp[go_sem]
 ·intro f' T
  simp[Target.leads]at T;subst T;exact aj
 ·simp[invoke,go_sem,eg]
 ·have ow:∀{Z:Loop}{A V:World}{row:Option Nat},Ze A w.heap.size Z->A.grownBy V row->(∀k,row=some k->f.heap.size<=k/\∃o:Obj,A.heap[k]?=some o/\o.isCells=false)->Ze V w.heap.size Z:=fun ac k q=>ac.own k (fun bf e=>by have:=(q bf e).1;omega)
  have fr:∀{A:World}{row:Option Nat},(∀k,row=some k->f.heap.size<=k/\∃o:Obj,A.heap[k]?=some o/\o.isCells=false)->∀k,row=some k->w.heap.size<=k/\∃o:Obj,A.heap[k]?=some o/\o.isCells=false:=fun q k e=>⟨oN ((q k e).1),(q k e).2⟩
  refine(bb (w.heap.size+1) (fun b W=>I b W/\Ze W w.heap.size (KR fn a.tmps c h i w.heap.size .ready none)) f af oM
   (fun bd A V row Y k q=>⟨r bd A V row Y.1 k (fr q),ow Y.2 k q⟩) ?_ ⟨al,aq⟩).mono ?_
  ·rintro b x W ⟨H,s⟩ a7 a5
   have hy:=run_yield (P:=P) s.1 (a6 x);refine⟨_,_,_,_,hy,roundIn_of_wpIn a0 (ar _ b x W _ H a7 (fun g d U a4 a1 a8 ax=>?_))⟩;have t:=s.keeps U;refine⟨_,run_beginRound t.1 rfl,?_⟩;have a9:Ze (d.putObj (w.heap.size+1) (.loop (KR fn a.tmps c h i w.heap.size .busy none))) w.heap.size (KR fn a.tmps c h i w.heap.size .busy none):=t.put _;have a2:l W (d.putObj (w.heap.size+1) (.loop (KR fn a.tmps c h i w.heap.size .busy none))):=G a4 (O _ _ _ _ oM t.1 rfl);refine wpIn_mono (ay _ b x g _ (r.putObj _ a1 oM t.1 rfl) (ap.putObj _ a8 oM t.1 rfl) ((ad x g).putObj (s:=()) _ ax oM t.1 rfl) a5) ?_;rintro e a3 V j;cases e with
   | normal =>
    have z:=a9.keeps j.1;exact⟨_,_,z.fin none,⟨rfl,⟨r.putObj _ j.2.2 oM z.1 rfl,z.put _⟩,G (G a2 j.2.1) (O _ _ _ _ oM z.1 rfl),(((U.from _).trans (KeepsFrom.of_grownBy (grownBy_putObj' d _ _) (fun bc e=>by cases e;omega))).trans (j.1.from _)).trans (KeepsFrom.of_grownBy (grownBy_putObj' V _ _) (fun bc e=>by cases e;omega))⟩⟩
   | ret=>exact j.2.elim
   | exit id=>exact j.2.elim
   | goto aa=>exact j.2.elim
   | panic ch=>exact j.elim
   | outgrown=>exact j.elim
  ·rintro e V ⟨⟨ab,rfl⟩,B,hS,H,s⟩
   exact⟨none,_,run_endLoop s.1 (by simp[KR]),az _ B _ (aA _) hS (r.putObj _ H oM s.1 rfl) (s.put _).2⟩
end
section
attribute [local go_sem] Oper.semAt_some
structure Zf(n₀:Nat)(Ms:Nat->Prop)(V V':World):Prop where
 size:V.heap.size<=V'.heap.size
 low:∀k,k<n₀->¬Ms k->V'.heap[k]?=V.heap[k]?
 cells:∀(k:Nat)(o:Obj),¬Ms k->V.heap[k]?=some o->o.isCells=true->V'.heap[k]?=some o
theorem Zf.refl(V:World):Zf n d V V:=⟨aA _,fun _ _ _=>rfl,fun _ _ _ h _=>h⟩
theorem Zf.trans(h:Zf n d w v)(k:Zf n d v u):Zf n d w u :=
 ⟨aJ h.size k.size,fun i c a=>(k.low i c a).trans (h.low i c a),fun i o a e b=>k.cells i o a (h.cells i o a e b) b⟩
theorem Zf.putObj(W:World)(l:Nat)(o c:Obj)(j:n<=l)(h:W.heap[l]?=some o)(g:o.isCells=false):Zf n d W (W.putObj l c):=by
 have f:=grownBy_putObj' W l c;refine⟨f.size,fun k i _=>?_,fun k m _ a b=>?_⟩
 ·exact World.putObj_heap_other oM
 ·exact(World.putObj_heap_other (fun e=>by subst e;rw[h]at a;injection a with a;subst a;rw[g]at b;cases b)).trans a
theorem Zf.of_below(h:Below w.heap.size w v)(c:n<=w.heap.size):Zf n d w v :=
 ⟨h.size,fun k b _=>h.block k oM,fun k o _ a _=>(h.block k (aS.1 a).1).trans a⟩
theorem Yn{p:Addr}(h:w.cell? p=some a):∃o:Obj,w.heap[p.block]?=some o/\o.isCells=true:=by
 unfold World.cell? at h;cases ho:w.heap[p.block]? with
 | none=>simp[ho]at h
 | some o=>exact⟨o,rfl,by cases o<;>simp_all[Obj.isCells]⟩
theorem Zf.block(h:Zf n d w v){p:Addr}(e:w.cell? p=some a)(f:¬d p.block):v.heap[p.block]?=w.heap[p.block]?:=by
 obtain⟨o,b,c⟩:=Yn e;rw[b];exact h.cells _ _ f b c
theorem Zf.cell(h:Zf n d w v){p:Addr}(b:w.cell? p=some a)(c:¬d p.block):v.cell? p=some a :=
 (bZ (h.block b c)).trans b
def cu(x:Yg):Value:=.agg #[.int .i64 x.op,.int .i64 x.dst,.int .i64 x.a,.int .i64 x.b,.int .i64 x.imm]
def Us(n:Nat)(k:Nat):List (Fin n):=((List.finRange n).reverse).take (n-k)
theorem Ua(n:Nat):Us n n=[]:=by simp[Us]
theorem Vf(n k:Nat):(Us n k).length=n-k:=by simp[Us]
theorem TJ(h:m<n):Us n m=Us n (m+1)++[⟨m,h⟩]:=by
 unfold Us;have e:n-m=(n-(m+1))+1:=oM;rw[e,bN (by simp;omega)];congr 1;simp;omega
theorem V6(F:Fence)(n:Nat)(d:F.fn 109)(f:F.round=none)(a:Option Addr)(c b:Nat)(w:World) :
 CallsIn F n prog 109 #[.slice a c b] w fun e g=>e=.returned (.func (.func 119) #[] #[.pointer (some ⟨w.heap.size,0,none⟩)])/\g=w.alloc (.cells #[.slice a c b] 86):=by
 refine iD func109 rfl d ?_ f;simp only[ntmps109,xY,Nat.reduceAdd,Nat.reduceSub]
 gi_wp2
 go_ret
 exact⟨rfl,rfl⟩
end
section
section
variable {F : Fence} {n : Nat} {P : Program} {ops : Array Oper} {Q : Exit -> Act -> World -> Prop} {md : Region.Mode} {S : World -> Prop}
def WQ(ops:Array Oper):Bool:=ops.toList.all fun o=>match o.op with | .defer _=>false | _=>true
theorem KN(h:WQ ops=true){j:Nat}{o:Oper}(hj:ops[j]?=some o):∀c,o.op≠.defer c:=fun c e=>by
 have hm:o∈ops.toList:=by
  obtain⟨hlt,rfl⟩:=aS.1 hj;simp
 have:=dV.1 h o hm;rw[e]at this;cases this
def YG(P:Program)(ops:Array Oper)(S:World->Prop)(o:Oper)(v:Value)(a:Act):Prop:=YieldsIf P ops S o v a/\∀w,o.about P w a.eval=none
theorem YG.wpOpIn{i:Nat}{o:Oper}{v:Value}{a:Act}(hd:∀c,o.op≠.defer c)(hi:ops[i]?=some o)(hy:YG P ops S o v a)
 {K:Act->World->Prop} {w:World} (hS:S w) (h:K (a.put o.dst v) w):wpOpIn F n P ops Q i K a w:=by
 unfold Go.wpOpIn;simp only[hi];have hab:∀f,o.about P w a.eval=some f->F.fn f:=fun f hf=>by rw[hy.2 w]at hf;cases hf
 rcases hy.1 with⟨hw,hv⟩ | ⟨hw,rfl⟩
 ·simp only[hw,gG,Oper.wpIn,Oper.semAt_plain F a.eval o hd,hv w hS,Oper.uponIn];exact⟨hab,h⟩
 ·simp only[hw,Bool.false_eq_true,fD];exact⟨hab,h⟩
theorem YG.of_same{o:Oper}{v:Value}{a a':Act}(hy:YG P ops S o v a)(he:execOp a'.eval o=execOp a.eval o)
 (hw:Region.wanted o (yielded ops a'.tmps)=Region.wanted o (yielded ops a.tmps)) (hb:∀w,o.about P w a'.eval=o.about P w a.eval):YG P ops S o v a' :=
 ⟨hy.1.of_same he hw,fun w=>by rw[hb w];exact hy.2 w⟩
theorem sj{j:Nat}{oi oj:Oper}{v:Value}(hdj:∀c,oj.op≠.defer c)(hj:ops[j]?=some oj)(hap:oi.apart ops oj=true)
 (hsi:∀cs b,oi.op≠.select cs b) (hsj:∀cs b,oj.op≠.select cs b)
 (hQ:∀c a w,Q (.panic c) (a.put oi.dst v) w->Q (.panic c) a w) {K:Act->World->Prop} {a:Act} {w:World}
 (hy:YG P ops S oi v a) (h:wpOpIn F n P ops Q j K (a.put oi.dst v) w) :
 wpOpIn F n P ops Q j (fun a' w'=>YG P ops S oi v a'/\K (a'.put oi.dst v) w') a w:=by
 obtain⟨h1,h2,h3⟩:=Oper.apart_spec hap;have keep:∀(a:Act),YG P ops S oi v a->∀u,YG P ops S oi v (a.put oj.dst u):=fun a hy u =>
  hy.of_same (execOp_put oi hsi a oj.dst u h3) (wanted_put oi a oj.dst u h3) (fun w=>about_put oi w a oj.dst u h3)
 have keepD:∀d,YG P ops S oi v { a with defers:=d::a.defers }:=fun d=>hy.of_same rfl rfl (fun _=>rfl)
 unfold wpOpIn at *;simp only[hj]at *;rw[wanted_put oj a oi.dst v h1,about_put oj w a oi.dst v h1]at h;split
 ·rename_i hw
  simp only[hw,gG]at h;unfold Oper.wpIn at *;rw[about_put oj w a oi.dst v h1]at h;refine⟨h.1,?_⟩;have h:=h.2;rw[Oper.semAt_plain F _ oj hdj,execOp_put oj hsj a oi.dst v h1]at h;rw[Oper.semAt_plain F _ oj hdj];generalize (execOp a.eval oj).run P w=r at *;cases r with
  | ok x w' =>
   cases x<;>simp only[Oper.uponIn]at h |-
   case value u=>exact⟨keep a hy u,by rw[<-jP a v u h2];exact h⟩
   case skip=>exact⟨keep a hy _,by rw[<-jP a v undef h2];exact h⟩
   case defer d =>
    refine⟨keep _ (keepD d) _,?_⟩;rw[<-jP _ v undef h2,<-Act.put_defers];exact h
   case enter f args =>
    refine⟨h.1,CallsIn.mono h.2 fun e w'' he=>?_⟩;cases e with
    | returned u=>exact⟨keep a hy u,by rw[<-jP a v u h2];exact he⟩
    | panicked c=>exact hQ _ _ _ he
    | outgrown=>exact he
   case row row args=>exact⟨h.1,RowsIn.mono h.2 fun u w'' he=>⟨keep a hy u,by rw[<-jP a v u h2];exact he⟩⟩
   case round l f tmps assign body =>
    refine⟨h.1,RoundIn.mono h.2 fun e w'' he=>?_⟩;cases e with
    | returned u=>exact⟨keep a hy u,by rw[<-jP a v u h2];exact he⟩
    | panicked c=>exact hQ _ _ _ he
    | outgrown=>exact he
  | halt x w' =>
   cases x<;>simp only[Oper.uponIn]at h |-
   case panic u=>exact hQ _ _ _ h
 ·rename_i hw
  simp only[hw]at h;exact⟨h.1,keep a hy _,by rw[<-jP a v undef h2];exact h.2⟩
def Y9(F:Fence)(n:Nat)(P:Program)(md:Region.Mode)(ops:Array Oper)(Q:Exit->Act->World->Prop)(S:World->Prop):Nat->Array Bool->Act->World->Prop
 | 0,listed,a,w=>Region.ready md ops listed=[]/\Q .normal a w
 | fuel+1,listed,a,w =>
  (Region.ready md ops listed=[]->Q .normal a w) /\
  ∀i∈Region.ready md ops listed,wpOpIn F n P ops Q i (fun a' w'=>S w'/\Y9 F n P md ops Q S fuel (listed.setIfInBounds i true) a' w') a w
theorem K6:∀(fuel:Nat)(listed:Array Bool)(a:Act)(w:World),Y9 F n P md ops Q S fuel listed a w->wpAnyIn F n P md ops Q fuel listed a w
 | 0,_,_,_,h=>h
 | fuel+1,_,_,_,h=>⟨h.1,fun i hi=>wpOpIn_mono (fun a' w' h'=>K6 fuel _ a' w' h'.2) (h.2 i hi)⟩
theorem rU{i:Nat}{oi:Oper}{v:Value}(hnd:WQ ops=true)(hi:ops[i]?=some oi)(hsel:∀(j:Nat)(o:Oper) cs b,ops[j]?=some o->o.op≠.select cs b)
 (hQ:∀c a w,Q (.panic c) (a.put oi.dst v) w->Q (.panic c) a w) :
 ∀(fuel:Nat)(listed:Array Bool)(a:Act)(w:World),
  (∀j oj,ops[j]?=some oj->j≠i->listed.getD j true=false->(∀e∈oj.after,Region.binds md e=true->e.on≠i)->oi.apart ops oj=true) ->
  i∈Region.ready md ops listed->YG P ops S oi v a->S w ->
  Y9 F n P md ops Q S fuel (listed.setIfInBounds i true) (a.put oi.dst v) w->Y9 F n P md ops Q S (fuel+1) listed a w:=by
 intro fuel
 induction fuel with
 | zero =>
  intro listed a w _ hr hy hS H;refine⟨fun h=>(by rw[h]at hr;cases hr),fun j hj=>?_⟩;by_cases hji:j=i
  ·subst hji;exact hy.wpOpIn (KN hnd hi) hi hS ⟨hS,H⟩
  ·have:=ready_mono hj hji
   rw[H.1]at this;cases this
 | succ fuel ih =>
  intro listed a w hfree hr hy hS H;refine⟨fun h=>(by rw[h]at hr;cases hr),fun j hj=>?_⟩;by_cases hji:j=i
  ·subst hji;exact hy.wpOpIn (KN hnd hi) hi hS ⟨hS,H⟩
  ·have h1:=H.2 j (ready_mono hj hji)
   obtain⟨hjun,oj,hoj,hall⟩:=mem_ready.1 hj;have hnot:∀e∈oj.after,Region.binds md e=true->e.on≠i:=fun e he hb heq=>by
    have h1:=hall e he hb;have h0:=(mem_ready.1 hr).1;rw[heq]at h1;rcases mL i listed.size with h' | h'
    ·simp[h']at h0 h1;rw[h0]at h1;cases h1
    ·simp[iI h']at h1
   have h2:=sj (KN hnd hoj) hoj (hfree j oj hoj hji hjun hnot) (fun cs b=>hsel i oi cs b hi) (fun cs b=>hsel j oj cs b hoj) hQ hy h1;have hfree':∀k ok,ops[k]?=some ok->k≠i->(listed.setIfInBounds j true).getD k true=false ->
    (∀e∈ok.after,Region.binds md e=true->e.on≠i)->oi.apart ops ok=true:=fun k ok hk hki hun hno=>by
    refine hfree k ok hk hki ?_ hno;by_cases hjk:j=k
    ·subst hjk;exact hjun
    ·rw[getD_set_ne true hjk]at hun;exact hun
   refine wpOpIn_mono (fun a' w' h3=>⟨h3.2.1,ih (listed.setIfInBounds j true) a' w' hfree' (ready_mono hr (kA hji)) h3.1 h3.2.1 ?_⟩) h2;rw[Array.setIfInBounds_comm _ _ hji];exact h3.2.2
theorem sv{i:Nat}{oi:Oper}{v:Value}{fuel:Nat}{listed:Array Bool}{a:Act}{w:World}(hi:ops[i]?=some oi)(hnd:WQ ops=true)
 (hs:Region.noSelect ops=true) (hf:Region.free md ops listed i=true) (hr:(Region.ready md ops listed).contains i=true)
 (hQ:∀c a w,Q (.panic c) (a.put oi.dst v) w->Q (.panic c) a w) (hy:YG P ops S oi v a) (hS:S w)
 (h:Y9 F n P md ops Q S fuel (listed.setIfInBounds i true) (a.put oi.dst v) w):Y9 F n P md ops Q S (fuel+1) listed a w :=
 rU hnd hi (Region.noSelect_spec hs) hQ fuel listed a w (Region.free_spec hi hf) (by simpa using hr) hy hS h
theorem sk{listed:Array Bool}{a:Act}{w:World}(hr:Region.ready md ops listed=[])(h:Q .normal a w) :
 ∀fuel,Y9 F n P md ops Q S fuel listed a w
 | 0=>⟨hr,h⟩
 | _+1=>⟨fun _=>h,by rw[hr];simp⟩
def Xu(F:Fence)(n:Nat)(P:Program)(md:Region.Mode)(ops:Array Oper)(Q:Exit->Act->World->Prop)(S:World->Prop)(fuel:Nat)(listed:Array Bool)(a:Act)(w:World)(rs:List Nat):Prop :=
 ∀i∈rs,wpOpIn F n P ops Q i (fun a' w'=>S w'/\Y9 F n P md ops Q S fuel (listed.setIfInBounds i true) a' w') a w
theorem Xu.nil{fuel:Nat}{listed:Array Bool}{a:Act}{w:World}:Xu F n P md ops Q S fuel listed a w []:=fun _ h=>by cases h
theorem Xu.cons{fuel:Nat}{listed:Array Bool}{a:Act}{w:World}{i:Nat}{o:Oper}{rs:List Nat}(ho:ops[i]?=some o)
 (h:∀K':Act->World->Prop,Shut (∀a w,S w->(S w->Y9 F n P md ops Q S fuel (listed.setIfInBounds i true) a w)->K' a w)->if Region.wanted o (yielded ops a.tmps)=true then Oper.wpIn F n P o a w K' Q else (∀f,o.about P w a.eval=some f->F.fn f)/\K' (a.put o.dst undef) w)
 (hs:Xu F n P md ops Q S fuel listed a w rs):Xu F n P md ops Q S fuel listed a w (i::rs):=fun j hj=>by
 rcases cH.1 hj with rfl | hj
 ·exact wpOpIn_step ho (fun K' hK=>h K' (fun a w hS hW=>hK a w ⟨hS,hW hS⟩))
 ·exact hs j hj
theorem YM{rs:List Nat}{fuel:Nat}{listed:Array Bool}{a:Act}{w:World}(hr:Region.ready md ops listed=rs)(hne:rs≠[])
 (h:Xu F n P md ops Q S fuel listed a w rs):Y9 F n P md ops Q S (fuel+1) listed a w:=⟨fun h0=>absurd (hr ▸ h0) hne,hr ▸ h⟩
def bu(Q:Exit->Act->World->Prop):Exit->Act->World->Prop
 | .normal,a,w=>Q .normal a w
 | _,_,_=>False
theorem Tl{id:Nat}{a:Act}{w:World}(hm:P.follows .mixedOrders=true)(hS:S w.drew)
 (h:S w.drew->Y9 F n P .any ops (bu Q) S ops.size (Array.replicate ops.size false) a w.drew):(Code.region id ops true).wpIn F n P Q a w :=
 wpIn_mono (wpIn_region_any (Q:=bu Q) hm (K6 _ _ _ _ (h hS))) (fun e _ _ h=>by cases e<;>first | exact h | exact h.elim)
theorem rY{listed:Array Bool}{a:Act}{w:World}(hr:Region.ready md ops listed=[])(h:Q .normal a w)(fuel:Nat):Y9 F n P md ops (bu Q) S fuel listed a w:=sk (Q:=bu Q) hr (show bu Q .normal a w from h) fuel
end
theorem Yi{F:Fence}{n:Nat}{P:Program}{md:Region.Mode}{ops:Array Oper}{Q:Exit->Act->World->Prop}{S:World->Prop}(i:Nat){oi:Oper}{v:Value}{fuel:Nat}{listed:Array Bool}{a b:Act}{w:World}(h:Y9 F n P md ops Q S fuel (listed.setIfInBounds i true) b w)(hi:ops[i]?=some oi:=by exact rfl)(hw:Region.wanted oi (yielded ops a.tmps)=true:=by rfl)(hy:∀(w:World),S w->Sem.run P (execOp a.eval oi) w=Result.ok (Next.value v) w:=by intro w hSw;(try dsimp only at hSw);go_simp;try with_reducible rfl)(hp:a.put oi.dst v=b:=by(simp only[xX]);exact rfl)(hq:∀c a w,Q (.panic c) (a.put oi.dst v) w->Q (.panic c) a w:=by exact fun _ _ _ h=>h)(hz:∀w,oi.about P w a.eval=none:=by exact fun _=>rfl)(hnd:WQ ops=true:=by kernel_rfl)(hs:Region.noSelect ops=true:=by kernel_rfl)(hf:Region.free md ops listed i=true:=by kernel_rfl)(hr:(Region.ready md ops listed).contains i=true:=by kernel_rfl)(hS:S w:=by assumption):Y9 F n P md ops Q S (fuel+1) listed a w:=sv hi hnd hs hf hr hq ⟨bC ⟨hw,hy⟩,hz⟩ hS (hp ▸ h)
theorem Yc{F:Fence}{n:Nat}{P:Program}{md:Region.Mode}{ops:Array Oper}{Q:Exit->Act->World->Prop}{S:World->Prop}(i:Nat){oi:Oper}{fuel:Nat}{listed:Array Bool}{a:Act}{w:World}(h:∀K':Act->World->Prop,Shut (∀a w,S w->∀{b:Act},(S w->Y9 F n P md ops Q S fuel (listed.setIfInBounds i true) b w)->(hp:a=b:=by(try simp only[xX]);exact rfl)->K' a w)->if Region.wanted oi (yielded ops a.tmps)=true then Oper.wpIn F n P oi a w K' Q else (∀f,oi.about P w a.eval=some f->F.fn f)/\K' (a.put oi.dst undef) w)(hi:ops[i]?=some oi:=by exact rfl)(hr:Region.ready md ops listed=[i]:=by kernel_rfl):Y9 F n P md ops Q S (fuel+1) listed a w:=YM (rs:=[i]) hr (by simp) (Xu.cons hi (fun K hK=>h K (fun a w hs b k hp=>hK a w hs (hp ▸ k))) Xu.nil)
theorem Tc{F:Fence}{n:Nat}{P:Program}{ops:Array Oper}{Q:Exit->Act->World->Prop}(S:World->Prop){id:Nat}{a:Act}{w:World}(h:S w.drew->Y9 F n P .any ops (bu Q) S ops.size (Array.replicate ops.size false) a w.drew)(hS:S w.drew:=by first | with_reducible exact True.intro | ((try dsimp only);go_keep))(hm:P.follows .mixedOrders=true:=by kernel_rfl):(Code.region id ops true).wpIn F n P Q a w:=Tl hm hS h
theorem ZV{F:Fence}{n:Nat}{P:Program}{md:Region.Mode}{ops:Array Oper}{Q:Exit->Act->World->Prop}{S:World->Prop}{listed:Array Bool}{a:Act}{w:World}{fuel:Nat}(h:Q .normal a w)(hr:Region.ready md ops listed=[]:=by kernel_rfl):Y9 F n P md ops (bu Q) S fuel listed a w:=rY hr h fuel
end
def Tx(p:Addr):Value:=.pointer (some p)
def Yd:List Bool->List Addr->List Addr
 | k::ks,p::ps=>if k then p::Yd ks ps else Yd ks ps
 | _,_=>[]
theorem tu(b:List Bool)(a:List Addr)(k:Bool)(p:Addr)(h:b.length=a.length):Yd (b++[k]) (a++[p])=Yd b a++(if k then [p]else []):=by
 induction b generalizing a with
 | nil=>cases a with
  | nil=>cases k<;>rfl
  | cons q r=>simp at h
 | cons x r c=>cases a with
  | nil=>simp at h
  | cons q s=>cases x<;>simp[Yd,c s (by simpa using h)]
theorem vJ(b:List Bool)(a:List Addr):(Yd b a).length<=a.length:=by
 induction b generalizing a with
 | nil=>simp[Yd]
 | cons x r c=>cases a with
  | nil=>simp[Yd]
  | cons q s=>have:=c s;cases x<;>simp[Yd]<;>omega
theorem Tryz.infoPtr:(prog.info? 161).map (fun i=>(i.zero,i.size,i.bytes))=some (some (.pointer none),1,8):=vZ
theorem uF(l:List Addr)(v:Addr):(l++[v]).map Tx=l.map Tx++[Tx v]:=sP
theorem tG(w:World):(w.alloc (.cells #[] 161)).ownsRow w.heap.size 161 1 (.slice (some ⟨w.heap.size,0,none⟩) 0 0) 0 []:=by
 have:=eI (base:=w.heap.size) (e:=161) (size:=1) w #[] 0 sP sP rfl;simpa using this
theorem UA(t j:Option Addr)(O A:Nat)(b:List Bool)(a:List Addr)(L B:Nat)(w:World)(l:B<=w.heap.size)(F:Hid (Zx w L B t (b.map Value.bool)))(H:Hid (Zx w L B j (a.map Tx)))(p:Hid (b.length=a.length))(X:a.length<=1000) :
 Calls prog 93 #[.slice t b.length O,.slice j a.length A] w fun h u=>∃v,h=.returned v/\Below w.heap.size w u/\u.ownsRow w.heap.size 161 1 v (Yd b a).length ((Yd b a).map Tx):=by
 obtain⟨N,E,I,J,M⟩:=fX Tryz.infoPtr
 go_in
 go_wp2
 go_loopw [5,11] (fun v i wr=>∃k:Nat,k<=a.length/\i=.int .i64 k/\Hid (Below w.heap.size w wr)/\Hid (wr.ownsRow w.heap.size 161 1 v (Yd (b.take k) (a.take k)).length ((Yd (b.take k) (a.take k)).map Tx))) (fun _ i _=>a.length-(intOf i).toNat)
 case atStart=>exact⟨0,aN _,rfl,Xa (Xb (Below.refl _ _) _),Xa (by simpa [Yd]using tG w)⟩
 case round =>
  obtain⟨k,W,rfl,c,d⟩:=hrel;have Y:=c.size;by_cases q:k<a.length
  ·have o:k<b.length:=oN p.out
   obtain⟨S,Z,rfl,⟨_,U⟩,D⟩:=(F.keepS (YA.of_below (c.mono l))) k (by simpa using o);obtain⟨T,o2,rfl,⟨_,V⟩,m⟩:=(H.keepS (YA.of_below (c.mono l))) k (by simpa using q);rw[cM]at D m;unfold Tx at m;have g:Hid (Yd (b.take (k+1)) (a.take (k+1))=Yd (b.take k) (a.take k)++(if b[k]then [a[k]]else [])):=Xa (by rw[bN o,bN q,tu _ _ _ _ (by simp only[dH];omega)]);have f:Hid ((Yd (b.take k) (a.take k)).length+1<=2000):=Xa (by have:=vJ (b.take k) (a.take k);simp only[dH]at this;omega);generalize b[k]=K at *;generalize a[k]=P at *;cases K with
   | false =>
    have e:Hid (wr.ownsRow w.heap.size 161 1 u5 (Yd (b.take (k+1)) (a.take (k+1))).length ((Yd (b.take (k+1)) (a.take (k+1))).map Tx)):=Xa (by rw[g.out];simpa using d.out);go_wp2;exact⟨⟨k+1,oM,gM,c,e⟩,by simp[intOf];omega⟩
   | true =>
    have z:=Xa (by have:=g.out;simpa using this)
    go_wp2_with (at_builtin;refine bT _ rfl _ _ 156 rfl w.heap.size 161 N (.pointer none) 1 8 underlying156 E I J M rfl vY _ _ _ rfl (d.alloc _) ⟨wr.heap.size,0,none⟩ 1 1 [.pointer (some P)] rfl rfl ?c1 ?c2 ?c3 ?c4 ?c5 ?_)
    case c2=>first | rfl | simp | (intro aa s;simp at s;subst s;rfl)
    case c3=>have:=f.out;unfold maxLen;omega
    case c4=>have:=f.out;omega
    case c5=>first | omega | (simp;omega)
    intro Q R r n G C;have e:Hid (R.ownsRow w.heap.size 161 1 Q (Yd (b.take (k+1)) (a.take (k+1))).length ((Yd (b.take (k+1)) (a.take (k+1))).map Tx)):=Xa (by rw[z.out,uF,aQ];exact r);have x:=Xa (Xy ((c).alloc oM _) n (d.alloc _) (aA _) (by simp;omega));clear r n G C;go_wp2;exact⟨⟨k+1,oM,gM,x,e⟩,by simp[intOf];omega⟩
  ·have y:Hid (wr.ownsRow w.heap.size 161 1 u5 (Yd b a).length ((Yd b a).map Tx)):=Xa (by have:=d.out;have h:=p.out;rwa[aW oM,aW oM]at this)
   go_wp2
   go_ret
   exact⟨_,rfl,c,y⟩
theorem KZ(h:Option Addr)(z:Nat)(b:List Addr)(a:List Int)(L B:Nat)(w:World)(A:B<=w.heap.size)(F:Hid (Zx w L B h (b.map Tx)))(e:Hid (a.length=b.length))(G:Hid (∀i (P:i<b.length) (Q:i<a.length),b[i].block<w.heap.size/\w.cell? b[i]=some (.int .i64 a[i])))(U:b.length<=1000) :
 Calls prog 92 #[.slice h b.length z] w fun g s=>∃v,g=.returned v/\Below w.heap.size w s/\s.ownsRow w.heap.size 2 1 v a.length (a.map (Value.int .i64)):=by
 obtain⟨K,D,H,I,J⟩:=fX Tryz.info2'
 go_in
 go_wp2
 go_loopw [3,9] (fun v i wr=>∃k:Nat,k<=b.length/\i=.int .i64 k/\Hid (Below w.heap.size w wr)/\Hid (wr.ownsRow w.heap.size 2 1 v (a.take k).length ((a.take k).map (Value.int .i64)))) (fun _ i _=>b.length-(intOf i).toNat)
 case atStart=>exact⟨0,aN _,rfl,Xa (Xb (Below.refl _ _) _),Xa (by
  have:=eI (base:=w.heap.size) (e:=2) (size:=1) w #[] 0 sP sP rfl;simpa using this)⟩
 case round =>
  obtain⟨k,T,rfl,c,d⟩:=hrel;have W:=c.size;by_cases n:k<b.length
  ·have m:k<a.length:=oN e.out
   obtain⟨O,X,rfl,⟨_,R⟩,j⟩:=(F.keepS (YA.of_below (c.mono A))) k (by simpa using n);rw[cM]at j;unfold Tx at j;obtain⟨p,q⟩:=G k n m;have S:=(c.cell (p:=b[k]) p).trans q;have y:=Xa (bN m);have f:Hid ((a.take k).length+1<=2000):=Xa (by have:=e.out;simp only[dH];omega);clear p q;generalize a[k]=V at *;generalize b[k]=Y at *
   go_wp2_with (at_builtin;refine bT _ rfl _ _ 27 rfl w.heap.size 2 K (.int .i64 0) 1 8 underlying27 D H I J rfl vY _ _ _ rfl (d.alloc _) ⟨wr.heap.size,0,none⟩ 1 1 [.int .i64 V] rfl rfl ?c1 ?c2 ?c3 ?c4 ?c5 ?_)
   case c1=>exact cell_one_new _ _ _
   case c2=>intro Z r;simp at r;subst r;rfl
   case c3=>have:=f.out;unfold maxLen;omega
   case c4=>have:=f.out;omega
   case c5=>simp;omega
   intro M N o l E C;have u:Hid (N.ownsRow w.heap.size 2 1 M (a.take (k+1)).length ((a.take (k+1)).map (Value.int .i64))):=Xa (by
    rw[y.out,tA,aQ,List.map_take,dH];exact o)
   have t:=Xa (Xy ((c).alloc oM _) l (d.alloc _) (aA _) (by simp;omega));clear o l E C;go_wp2;exact⟨⟨k+1,oM,gM,t,u⟩,by simp[intOf];omega⟩
  ·have x:Hid (wr.ownsRow w.heap.size 2 1 u3 a.length (a.map (Value.int .i64))):=Xa (by have:=d.out;have g:=e.out;rwa[aW oM]at this)
   go_wp2
   go_ret
   exact⟨_,rfl,c,x⟩
def iB(a:Int):Bool:=decide (a<=2)
def Cu(k:Int):List UInt8:=if k=1 then [106,117,109,112]else if k=3 then [114,101,116]else [98,114,97,110,99,104]
def Yy(w:World):Prop:=0 < w.heap.size/\∀k:Nat,1<=k->k<=13->w.cell? ⟨0,k*5,none⟩=some (.string (K8 (dz k)))/\w.cell? ⟨0,k*5+1,none⟩=some (.bool (dB k))/\w.cell? ⟨0,k*5+2,none⟩=some (.bool (aB k)) /\
 w.cell? ⟨0,k*5+3,none⟩=some (.bool (bB k))/\w.cell? ⟨0,k*5+4,none⟩=some (.bool (iB k))
def Yb(w:World):Prop:=1 < w.heap.size/\∀k:Nat,1<=k->k<=3->w.cell? ⟨1,k*4,none⟩=some (.string (K8 (Cu k)))/\w.cell? ⟨1,k*4+1,none⟩=some (.bool ((k:Int) != 1))/\w.cell? ⟨1,k*4+2,none⟩=some (.bool ((k:Int) != 3)) /\
 w.cell? ⟨1,k*4+3,none⟩=some (.bool ((k:Int)==2))
theorem Yy.keep{w':World}(h:Yy w)(k:Below B w w')(c:0 < B):Yy w':=by
 refine⟨aX h.1 k.size,fun i a b=>?_⟩;have e:=fun o=>Xc (o:=o) (k.block 0 c)
 obtain⟨c0,c1,c2,c3,c4⟩:=h.2 i a b;exact⟨(e _).trans c0,(e _).trans c1,(e _).trans c2,(e _).trans c3,(e _).trans c4⟩
theorem Yb.keep{w':World}(h:Yb w)(k:Below B w w')(c:1 < B):Yb w':=by
 refine⟨aX h.1 k.size,fun i a b=>?_⟩;have e:=fun o=>Xc (o:=o) (k.block 1 c)
 obtain⟨c0,c1,c2,c3⟩:=h.2 i a b;exact⟨(e _).trans c0,(e _).trans c1,(e _).trans c2,(e _).trans c3⟩
theorem Yy.old(h:Yy w):Uw w:=⟨h.1,fun k a b=>by
 obtain⟨c0,c1,c2,c3,c4⟩:=h.2 k a b;exact⟨_,c0,c1,c2,c3,_,c4⟩⟩
theorem Yb.old(h:Yb w):T7 w:=⟨h.1,fun k a b=>by
 obtain⟨c0,c1,c2,c3⟩:=h.2 k a b;exact⟨_,c0,c1,c2,c3⟩⟩
theorem J7(w:World)(a:List Value)(t:TypeId)(f:List Value)(d:TypeId):Zx ((w.alloc (.cells a.toArray t)).alloc (.cells f.toArray d)).drew w.heap.size (w.heap.size+2) (some ⟨w.heap.size,0,none⟩) a:=fun i c =>
 ⟨_,0,rfl,⟨aA _,oM⟩,by
  obtain⟨b,o,e,_,h⟩:=ou w a t i c;cases e;exact(Xc (Below.heap_alloc _ _ _ sP)).trans h⟩
theorem J6(w:World)(d:List Value)(t:TypeId)(c:List Value)(a:TypeId):Zx ((w.alloc (.cells c.toArray a)).alloc (.cells d.toArray t)).drew w.heap.size (w.heap.size+2) (some ⟨w.heap.size+1,0,none⟩) d:=fun i f =>
 ⟨_,0,rfl,⟨oM,oM⟩,by
  obtain⟨b,o,e,_,h⟩:=ou (w.alloc (.cells c.toArray a)) d t i f;have e1:(w.alloc (.cells c.toArray a)).heap.size=w.heap.size+1:=sP;rw[e1]at e;cases e;exact h⟩
def rdI(x:Yg):List Int:=(if aB x.op then [x.a]else [])++(if bB x.op then [x.b]else [])
theorem tW(b k:Nat)(l i j m:Int)(w:World)(hi:Hid (Jk w b 0 ⟨k,l,i,j,m⟩))(Z:1<=k)(J:k<=13)(O:Hid (Yy w)) :
 Calls prog 110 #[.pointer (some ⟨b,0,none⟩)] w fun e f=>∃v,e=.returned v/\Below w.heap.size w f/\f.ownsRow w.heap.size 2 1 v (rdI ⟨k,l,i,j,m⟩).length ((rdI ⟨k,l,i,j,m⟩).map (Value.int .i64)):=by
 obtain⟨P,q1,q2,C,Q⟩:=hi.out;simp only at P q1 q2 C Q;obtain⟨c0,c1,c2,c3,c4⟩:=O.2 k Z J;have hz:=O.1;have M:b<w.heap.size:=aI w _ q2;have y:Hid (rdI ⟨k,l,i,j,m⟩=(if aB (k:Int)then [i]else [])++(if bB (k:Int)then [j]else [])):=Xa rfl;generalize rdI ⟨k,l,i,j,m⟩=D at *;generalize dB (k:Int)=t at *;generalize aB (k:Int)=c at *;generalize bB (k:Int)=d at *;generalize iB (k:Int)=u at *;have F:=Xa q2;have G:=Xa C
 go_in
 go_wp2_with fail
 have e1:(w.alloc (.cells #[.string (K8 (dz k)),.bool t,.bool c,.bool d,.bool u] 159)).heap.size=w.heap.size+1:=sP;have H:(w.alloc (.cells #[.string (K8 (dz k)),.bool t,.bool c,.bool d,.bool u] 159)).cell? ⟨w.heap.size,2,none⟩=some (.bool c):=sP;have I:(w.alloc (.cells #[.string (K8 (dz k)),.bool t,.bool c,.bool d,.bool u] 159)).cell? ⟨w.heap.size,3,none⟩=some (.bool d):=sP;have x:Hid (Below w.heap.size w (w.alloc (.cells #[.string (K8 (dz k)),.bool t,.bool c,.bool d,.bool u] 159))):=Xa (Xb (Below.refl _ _) _);generalize w.alloc _=a at *;clear P q1 q2 C Q c0 c1 c2 c3 c4;have aj:=Xa e1;have q:w.heap.size<a.heap.size:=oM;clear e1;have z:Hid (∀(s n:Option Addr)(W:World),Below a.heap.size a W->Zx W a.heap.size W.heap.size s ([c,d].map Value.bool)->Zx W a.heap.size W.heap.size n ([⟨b,2,none⟩,⟨b,3,none⟩].map Tx)->Calls prog 93 #[.slice s 2 2,.slice n 2 2] W fun e g=>∃h c5 m5,e=.returned (.slice h m5 c5)/\g.cell? ⟨w.heap.size,2,none⟩=some (.bool c)/\g.cell? ⟨w.heap.size,3,none⟩=some (.bool d) /\
  Hid (Calls prog 92 #[.slice h m5 c5] g fun e f=>∃v,e=.returned v/\f.cell? ⟨w.heap.size,2,none⟩=some (.bool c)/\f.cell? ⟨w.heap.size,3,none⟩=some (.bool d)/\Hid (Below w.heap.size w f)/\Hid (f.ownsRow w.heap.size 2 1 v D.length (D.map (Value.int .i64))))):=Xa (fun s n W K hk hp=>by
  have al:=K.size;refine(UA s n 2 2 [c,d] [⟨b,2,none⟩,⟨b,3,none⟩] a.heap.size W.heap.size W (aA _) (Xa hk) (Xa hp) (Xa rfl) sP).mono ?_;rintro e g ⟨v5,rfl,L,ab⟩;have s5:=L.size;have r:=Xg K L;obtain⟨h,c5,rfl,ad⟩:=UO ab;rw[bK];have N:=x.trans (r.mono oM);refine⟨h,c5,_,rfl,oB r H q,oB r I q,Xa ?_⟩;have R:=oB N F M;have S:=oB N G M;have p:b<g.heap.size:=oM;refine(KZ h c5 (Yd [c,d] [⟨b,2,none⟩,⟨b,3,none⟩]) D W.heap.size g.heap.size g (aA _) (Xa ad) (Xa ?_) (Xa ?_) ?_).mono ?_
  ·rw[y.out];cases c<;>cases d<;>rfl
  ·intro A o h'
   have af:=y.out;subst af;cases c<;>cases d
   ·exact absurd o (by simp[Yd])
   ·match A,o with
    | 0,_=>exact⟨p,S⟩
   ·match A,o with
    | 0,_=>exact⟨p,R⟩
   ·match A,o with
    | 0,_=>exact⟨p,R⟩
    | 1,_=>exact⟨p,S⟩
  ·cases c<;>cases d<;>simp[Yd]
  ·rintro e w7 ⟨T,rfl,aa,ac⟩
   have B:=Xg r aa;exact⟨T,rfl,oB B H q,oB B I q,Xa (x.trans (B.mono oM)),Xa (Zk ac oM)⟩)
 have V:=Xa (z.out (some ⟨a.heap.size,0,none⟩) (some ⟨a.heap.size+1,0,none⟩) ((a.alloc (.cells #[.bool c,.bool d] 4)).alloc (.cells #[.pointer (some ⟨b,2,none⟩),.pointer (some ⟨b,3,none⟩)] 161)).drew (Xb (Xb (Below.refl a.heap.size a) _) _).drew (by rw[show((a.alloc (.cells #[.bool c,.bool d] 4)).alloc (.cells #[.pointer (some ⟨b,2,none⟩),.pointer (some ⟨b,3,none⟩)] 161)).drew.heap.size=a.heap.size+2 from by show((a.alloc (.cells #[.bool c,.bool d] 4)).alloc (.cells #[.pointer (some ⟨b,2,none⟩),.pointer (some ⟨b,3,none⟩)] 161)).heap.size=_;simp];exact J7 a [.bool c,.bool d] 4 [.pointer (some ⟨b,2,none⟩),.pointer (some ⟨b,3,none⟩)] 161) (by rw[show((a.alloc (.cells #[.bool c,.bool d] 4)).alloc (.cells #[.pointer (some ⟨b,2,none⟩),.pointer (some ⟨b,3,none⟩)] 161)).drew.heap.size=a.heap.size+2 from by show((a.alloc (.cells #[.bool c,.bool d] 4)).alloc (.cells #[.pointer (some ⟨b,2,none⟩),.pointer (some ⟨b,3,none⟩)] 161)).heap.size=_;simp];exact J6 a [.pointer (some ⟨b,2,none⟩),.pointer (some ⟨b,3,none⟩)] 161 [.bool c,.bool d] 4));have X:=Xa (z.out (some ⟨a.heap.size+1,0,none⟩) (some ⟨a.heap.size,0,none⟩) ((a.alloc (.cells #[.pointer (some ⟨b,2,none⟩),.pointer (some ⟨b,3,none⟩)] 161)).alloc (.cells #[.bool c,.bool d] 4)).drew (Xb (Xb (Below.refl a.heap.size a) _) _).drew (by rw[show((a.alloc (.cells #[.pointer (some ⟨b,2,none⟩),.pointer (some ⟨b,3,none⟩)] 161)).alloc (.cells #[.bool c,.bool d] 4)).drew.heap.size=a.heap.size+2 from by show((a.alloc (.cells #[.pointer (some ⟨b,2,none⟩),.pointer (some ⟨b,3,none⟩)] 161)).alloc (.cells #[.bool c,.bool d] 4)).heap.size=_;simp];exact J6 a [.bool c,.bool d] 4 [.pointer (some ⟨b,2,none⟩),.pointer (some ⟨b,3,none⟩)] 161) (by rw[show((a.alloc (.cells #[.pointer (some ⟨b,2,none⟩),.pointer (some ⟨b,3,none⟩)] 161)).alloc (.cells #[.bool c,.bool d] 4)).drew.heap.size=a.heap.size+2 from by show((a.alloc (.cells #[.pointer (some ⟨b,2,none⟩),.pointer (some ⟨b,3,none⟩)] 161)).alloc (.cells #[.bool c,.bool d] 4)).heap.size=_;simp];exact J7 a [.pointer (some ⟨b,2,none⟩),.pointer (some ⟨b,3,none⟩)] 161 [.bool c,.bool d] 4));clear z x F G y
 go_region_held3 (fun f=>f.cell? ⟨w.heap.size,2,none⟩=some (.bool c)/\f.cell? ⟨w.heap.size,3,none⟩=some (.bool d)) (go_keep)
  (first
   | (go_at_call 93;with_reducible refine V.out.mono ?_;rintro e g ⟨h,c5,m5,rfl,f2,f3,E⟩)
   | (go_at_call 93;with_reducible refine X.out.mono ?_;rintro e g ⟨h,c5,m5,rfl,f2,f3,E⟩)
   | (go_at_call 92;with_reducible refine E.out.mono ?_;rintro e w7 ⟨T,rfl,J,h3,U,Y⟩))
 all_goals
  go_wp2
  go_ret
  exact⟨_,rfl,U,Y⟩
def rdT(x:Yj):List Int:=if x.kind != 1 then [x.a]else []
theorem r6(b o k:Nat)(A I H:Int)(w:World)(D:Hid (Va w b o ⟨k,A,I,H⟩))(B:1<=k)(C:k<=3)(r:Hid (Yb w)) :
 Calls prog 118 #[.pointer (some ⟨b,o,none⟩)] w fun e d=>∃v,e=.returned v/\Below w.heap.size w d/\d.ownsRow w.heap.size 161 1 v (Yd [(k:Int) != 1] [⟨b,o+1,none⟩]).length ((Yd [(k:Int) != 1] [⟨b,o+1,none⟩]).map Tx):=by
 obtain⟨i,q1,q2,t⟩:=D.out;simp only at i q1 q2 t;obtain⟨c0,c1,c2,c3⟩:=r.2 k B C;have s:=r.1;have q:b<w.heap.size:=aI w _ i;generalize ((k:Int) != 1)=c at *;have l:Hid (∀(h g:Option Addr)(W:World),Below w.heap.size w W->Zx W w.heap.size W.heap.size h ([c].map Value.bool)->Zx W w.heap.size W.heap.size g ([⟨b,o+1,none⟩].map Tx)->Calls prog 93 #[.slice h 1 1,.slice g 1 1] W fun e f=>∃v,e=.returned v/\Below w.heap.size w f/\Hid (f.ownsRow w.heap.size 161 1 v (Yd [c] [⟨b,o+1,none⟩]).length ((Yd [c] [⟨b,o+1,none⟩]).map Tx))):=Xa (fun h g W p E G=>by
  have N:=p.size;refine(UA h g 1 1 [c] [⟨b,o+1,none⟩] w.heap.size W.heap.size W (aA _) (Xa E) (Xa G) (Xa rfl) sP).mono ?_;rintro e f ⟨j,rfl,a,F⟩;exact⟨j,rfl,Xg p a,Xa (Zk F oM)⟩)
 have e2:∀x y,((w.alloc x).alloc y).drew.heap.size=w.heap.size+2:=fun x y=>by show((w.alloc x).alloc y).heap.size=_;simp
 have u:=Xa (l.out (some ⟨w.heap.size,0,none⟩) (some ⟨w.heap.size+1,0,none⟩) ((w.alloc (.cells #[.bool c] 4)).alloc (.cells #[.pointer (some ⟨b,o+1,none⟩)] 161)).drew (Xb (Xb (Below.refl w.heap.size w) _) _).drew (by rw[e2];exact J7 w [.bool c] 4 [.pointer (some ⟨b,o+1,none⟩)] 161) (by rw[e2];exact J6 w [.pointer (some ⟨b,o+1,none⟩)] 161 [.bool c] 4));have z:=Xa (l.out (some ⟨w.heap.size+1,0,none⟩) (some ⟨w.heap.size,0,none⟩) ((w.alloc (.cells #[.pointer (some ⟨b,o+1,none⟩)] 161)).alloc (.cells #[.bool c] 4)).drew (Xb (Xb (Below.refl w.heap.size w) _) _).drew (by rw[e2];exact J6 w [.bool c] 4 [.pointer (some ⟨b,o+1,none⟩)] 161) (by rw[e2];exact J7 w [.pointer (some ⟨b,o+1,none⟩)] 161 [.bool c] 4));clear e2 l q1 q2 t c0 c2 c3;have K:(k:Int)<=3:=oM;have J:(0:Int)<=(k:Int):=oM;have L:(k:Int)<4:=oM;have M:k<4:=oM
 go_in
 go_wp2_with fail
 go_region_held3 (fun d=>d.cell? ⟨b,o,none⟩=some (.int .i64 (k:Int))/\d.cell? ⟨1,k*4+1,none⟩=some (.bool c)) (go_keep)
  (first
   | (go_at_call 93;with_reducible refine u.out.mono ?_;rintro e f ⟨j,rfl,a,n⟩;have f2:=oB a i q;have f3:=oB a c1 s;have m:=Xa a;clear a)
   | (go_at_call 93;with_reducible refine z.out.mono ?_;rintro e f ⟨j,rfl,a,n⟩;have f2:=oB a i q;have f3:=oB a c1 s;have m:=Xa a;clear a))
 all_goals
  go_wp2
  go_ret
  exact⟨j,rfl,m,n⟩
theorem tX(b o k:Nat)(a t l:Int)(w:World)(n:Hid (Va w b o ⟨k,a,t,l⟩))(E:1<=k)(F:k<=3)(I:Hid (Yb w)) :
 Calls prog 108 #[.pointer (some ⟨b,o,none⟩)] w fun e x=>∃v,e=.returned v/\Below w.heap.size w x/\x.ownsRow w.heap.size 2 1 v (rdT ⟨k,a,t,l⟩).length ((rdT ⟨k,a,t,l⟩).map (Value.int .i64)):=by
 have z:=Xa (r6 b o k a t l w n E F I);obtain⟨f,q1,q2,s⟩:=n.out;simp only at f q1 q2 s;have C:=Xa q1;have i:Hid (rdT ⟨k,a,t,l⟩=if ((k:Int) != 1)then [a]else []):=Xa rfl;generalize rdT ⟨k,a,t,l⟩=M at *;generalize ((k:Int) != 1)=c at *;have H:b<w.heap.size:=aI w _ f;clear f q1 q2 s
 go_in
 go_wp2_with fail
 refine z.mono ?_;rintro e g ⟨P,rfl,d,p⟩;obtain⟨D,c5,rfl,r⟩:=UO p;rw[bK];have u:=oB d C H;have G:b<g.heap.size:=oN d.size
 have A:=Xa (KZ D c5 (Yd [c] [⟨b,o+1,none⟩]) M w.heap.size g.heap.size g (aA _) (Xa r) (Xa (by rw[i.out];cases c<;>rfl)) (Xa (by
  intro K j N;have J:=i.out;subst J;cases c
  ·exact absurd j (by simp[Yd])
  ·match K,j with
   | 0,_=>exact⟨G,u⟩)) (by cases c<;>simp[Yd]))
 have h:=Xa d;clear d p r u;generalize (Yd [c] [⟨b,o+1,none⟩]).length=O at *
 go_wp2_with fail
 refine A.mono ?_;rintro e Q ⟨L,rfl,m,q⟩;have y:=Xa (Xg h m);have B:=Xa (Zk q h.size);clear m q
 go_wp2
 go_ret
 exact⟨L,rfl,y,B⟩
def writesI(x:Yg):List Int:=if dB x.op then [x.dst]else []
theorem UH(b k:Nat)(h j l m:Int)(w:World)(P:Hid (Jk w b 0 ⟨k,h,j,l,m⟩))(M:1<=k)(N:k<=13)(F:Hid (Yy w)) :
 Calls prog 42 #[.pointer (some ⟨b,0,none⟩)] w fun e d=>∃v,e=.returned v/\Below w.heap.size w d/\d.ownsRow w.heap.size 2 1 v (writesI ⟨k,h,j,l,m⟩).length ((writesI ⟨k,h,j,l,m⟩).map (Value.int .i64)):=by
 obtain⟨q,q1,q2,G,H⟩:=P.out;simp only at q q1 q2 G H;obtain⟨c0,c1,c2,c3,c4⟩:=F.2 k M N;have t:=F.1;have o:b<w.heap.size:=aI w _ q2;have r:Hid (writesI ⟨k,h,j,l,m⟩=if dB (k:Int)then [h]else []):=Xa rfl;generalize writesI ⟨k,h,j,l,m⟩=y at *;generalize dB (k:Int)=a at *;have C:=Xa q1;have s:Hid (∀(p n:Option Addr)(W:World),Below w.heap.size w W->Zx W w.heap.size W.heap.size p ([a].map Value.bool)->Zx W w.heap.size W.heap.size n ([⟨b,1,none⟩].map Tx)->Calls prog 93 #[.slice p 1 1,.slice n 1 1] W fun e f=>∃g c5 m5,e=.returned (.slice g m5 c5)/\Below w.heap.size w f /\
  Hid (Calls prog 92 #[.slice g m5 c5] f fun e d=>∃v,e=.returned v/\Below w.heap.size w d/\Hid (d.ownsRow w.heap.size 2 1 v y.length (y.map (Value.int .i64))))):=Xa (fun p n W E Q T=>by
  have af:=E.size;refine(UA p n 1 1 [a] [⟨b,1,none⟩] w.heap.size W.heap.size W (aA _) (Xa Q) (Xa T) (Xa rfl) sP).mono ?_;rintro e f ⟨v5,rfl,c,R⟩;have s5:=c.size;have u:=Xg E c;obtain⟨g,c5,rfl,U⟩:=UO R;rw[bK];refine⟨g,c5,_,rfl,u,Xa ?_⟩;have Y:=oB u C o;have O:b<f.heap.size:=oM;refine(KZ g c5 (Yd [a] [⟨b,1,none⟩]) y W.heap.size f.heap.size f (aA _) (Xa U) (Xa ?_) (Xa ?_) ?_).mono ?_
  ·rw[r.out];cases a<;>rfl
  ·intro X D h'
   have V:=r.out;subst V;cases a
   ·exact absurd D (by simp[Yd])
   ·match X,D with
    | 0,_=>exact⟨O,Y⟩
  ·cases a<;>simp[Yd]
  ·rintro e Z ⟨x,rfl,i,S⟩
   exact⟨x,rfl,Xg u i,Xa (Zk S oM)⟩)
 have e2:∀z A,((w.alloc z).alloc A).drew.heap.size=w.heap.size+2:=fun z A=>by show((w.alloc z).alloc A).heap.size=_;simp
 have J:=Xa (s.out (some ⟨w.heap.size,0,none⟩) (some ⟨w.heap.size+1,0,none⟩) ((w.alloc (.cells #[.bool a] 4)).alloc (.cells #[.pointer (some ⟨b,1,none⟩)] 161)).drew (Xb (Xb (Below.refl w.heap.size w) _) _).drew (by rw[e2];exact J7 w [.bool a] 4 [.pointer (some ⟨b,1,none⟩)] 161) (by rw[e2];exact J6 w [.pointer (some ⟨b,1,none⟩)] 161 [.bool a] 4));have K:=Xa (s.out (some ⟨w.heap.size+1,0,none⟩) (some ⟨w.heap.size,0,none⟩) ((w.alloc (.cells #[.pointer (some ⟨b,1,none⟩)] 161)).alloc (.cells #[.bool a] 4)).drew (Xb (Xb (Below.refl w.heap.size w) _) _).drew (by rw[e2];exact J6 w [.bool a] 4 [.pointer (some ⟨b,1,none⟩)] 161) (by rw[e2];exact J7 w [.pointer (some ⟨b,1,none⟩)] 161 [.bool a] 4));clear e2 s q1 q2 G H c0 c2 c3 c4 C r;have ac:(0:Int)<=(k:Int):=oM;have ad:(k:Int)<14:=oM
 go_in
 go_wp2_with fail
 go_region_held3 (fun d=>d.cell? ⟨b,0,none⟩=some (.int .i64 (k:Int))/\d.cell? ⟨0,k*5+1,none⟩=some (.bool a)) (go_keep)
  (first
   | (go_at_call 93;with_reducible refine J.out.mono ?_;rintro e f ⟨g,c5,m5,rfl,c,B⟩;have f2:=oB c q o;have f3:=oB c c1 t;clear c)
   | (go_at_call 93;with_reducible refine K.out.mono ?_;rintro e f ⟨g,c5,m5,rfl,c,B⟩;have f2:=oB c q o;have f3:=oB c c1 t;clear c)
   | (go_at_call 92;with_reducible refine B.out.mono ?_;rintro e Z ⟨x,rfl,i,L⟩;have aa:=oB i q o;have ab:=oB i c1 t;have I:=Xa i;clear i))
 all_goals
  go_wp2
  go_ret
  exact⟨x,rfl,I,L⟩
theorem Tryz.infoVn:(prog.info? 42).map (fun i=>(i.zero,i.size,i.bytes))=some (some (.int .i64 0),1,8):=vZ
theorem Yz(g:Option Addr)(n y:Nat)(a:List Int)(L B:Nat)(w:World)(ha:Hid (Xf w L B g a))(r:Hid (n=a.length))(R:n<=100000)(M:B<=w.heap.size) :
 Calls prog 107 #[.slice g n y] w fun A f=>∃h z,A=.returned (.slice h a.length z)/\Below w.heap.size w f/\Xf f w.heap.size f.heap.size h a:=by
 obtain⟨H,C,E,F,G⟩:=fX Tryz.infoVn;have v:Hid ((w.alloc (.cells #[] 42)).ownsRow w.heap.size 42 1 (.slice (some ⟨w.heap.size,0,none⟩) 0 0) 0 []):=Xa (eI (base:=w.heap.size) (e:=42) (size:=1) w #[] 0 sP sP rfl)
 go_in
 go_wp2
 go_loopw [3,9] (fun u i wr=>∃k:Nat,k<=n/\i=.int .i64 k/\Below w.heap.size w wr/\Hid (wr.ownsRow w.heap.size 42 1 u k ((a.take k).map (Value.int .i64)))) (fun _ i _=>n-(intOf i).toNat)
 case atStart=>exact⟨0,aN _,rfl,Xb (Below.refl _ _) _,v⟩
 case round =>
  obtain⟨k,P,rfl,d,e⟩:=hrel;by_cases Q:k<n
  ·have m:k<a.length:=oN r.out
   obtain⟨b,T,rfl,⟨_,N⟩,j⟩:=ha k m;have O:=(XU d oM).trans j;have t:=Xa (X7 _ _ m);clear j;generalize a[k]=J at *;have S:=d.size
   go_wp2_with (at_builtin;refine fT _ rfl _ _ 137 rfl w.heap.size 42 H (.int .i64 0) 1 8 underlying137 C E F G rfl vY _ _ _ rfl (e.alloc _) ⟨wr.heap.size,0,none⟩ 1 1 [.int .i64 J] rfl rfl ?c1 ?c2 ?c3 ?c4 ?c5 ?_)
   case c1 =>
    intro I u c
    match I,c with
    | 0,c=>simp at c;subst c;simp[Addr.add]
   case c2=>intro u q;simp at q;subst q;rfl
   case c3=>unfold maxLen;omega
   case c4=>omega
   case c5=>simp;omega
   intro U V p l _;have x:=Xa p;have s:=Xa (Xy (Xb d _) l (e.alloc _) (aA _) (by simp;omega));clear p l;go_wp2;exact⟨⟨k+1,oM,gM,s,Xa (by rw[t.out,Yl,List.map_take];exact x)⟩,by simp[intOf];omega⟩
  ·go_wp2
   go_ret
   have o:=e.out;rw[aW (l:=a) (i:=k) (oN r.out)]at o;obtain⟨K,c1,rfl,D⟩:=Xk o;exact⟨_,_,rfl,d,D⟩
theorem KY{m' l':Nat}{args:Array Value}{a:Ending->World->Prop}(h:YieldAt Fence.wide n R m args w a):YieldAt (Fence.wide.inRound l') m' R m args w a:=by
 obtain⟨fn,tmps,c,d,g,b⟩:=h;exact⟨fn,tmps,c,d,g,b.1,fun e f _=>b.2 e f (room_wide _)⟩
structure Pl where
 i:Nat
 ua:Option Addr
 uc:Nat
 us:List Int
 da:Option Addr
 dc:Nat
 ds:List Int
def Pl.dat(p:Pl):Nat × List Int × List Int:=(p.i,p.us,p.ds)
def gh(p:Pl):Array Value:=#[.int .i64 (p.i:Int),.agg #[.slice p.ua p.us.length p.uc,.slice p.da p.ds.length p.dc]]
def eh(a:Nat)(b:Nat × List Int × List Int->Prop)(p:Pl)(V:World):Prop:=b p.dat/\Xf V a V.heap.size p.ua p.us/\Xf V a V.heap.size p.da p.ds
def VH(x:Xe)(j:Fin x.is.length):Nat × List Int × List Int:=((j:Nat)+1,rdI (x.is[j]),writesI (x.is[j]))
def plL(x:Xe):List (Nat × List Int × List Int):=(x.is.length+1,rdT x.te,[])::((Us x.is.length 0).map (VH x)++[(0,[],x.ps.map Ph.dst)])
theorem nW(x:Xe)(j:Fin x.is.length):VH x j∈plL x:=by
 refine cN _ (dD _ (List.mem_map_of_mem ?_));unfold Us;rw[aW sP];exact kU.2 (lX j)
theorem l5(x:Xe):((0:Nat),([]:List Int),x.ps.map Ph.dst)∈plL x:=cN _ (fB _ (cS.2 rfl))
theorem Yy.of_block(h:Yy w)(e:v.heap[(0 : Nat)]?=w.heap[(0 : Nat)]?)(c:w.heap.size<=v.heap.size):Yy v:=by
 refine⟨aX h.1 c,fun i a b=>?_⟩;have e:=fun o=>Xc (o:=o) e
 simp only[e];exact h.2 i a b
theorem Yb.of_block(h:Yb w)(e:v.heap[(1 : Nat)]?=w.heap[(1 : Nat)]?)(c:w.heap.size<=v.heap.size):Yb v:=by
 refine⟨aX h.1 c,fun i a b=>?_⟩;have e:=fun o=>Xc (o:=o) e
 simp only[e];exact h.2 i a b
structure Stc(x:Xe)(L B Bx n₀:Nat)(V:World):Prop where
 op:Yy V
 ter:Yb V
 blk:Tk V L B Bx 0 x
 lt:Bx<n₀
 le:B<=n₀
 g1:0 < n₀
 g2:1 < n₀
theorem XO{a:Type}{J:a->World->Prop}(b:OwnFrom n J){s:a}(h:J s w)(k:Below w.heap.size w v):J s v :=
 b s w v none h ⟨k.os,k.tape,k.output,k.size,fun i c _=>k.block i c⟩ (fun r e=>by cases e)
theorem YK{F:Fence}{fn:Func}{tmps:Array Value}{a:Ending->World->Prop}(b:w.heap[m]?=some (.deferred (some [])))(h:∃v,(results fn tmps).run R (w.putObj m (.deferred none))=.ok v (w.putObj m (.deferred none))/\a (.returned v) (w.putObj m (.deferred none))):LeavesInM F n R fn tmps a [{ target:=.collected m,args:=#[] }] .returning w :=
 ⟨sP,bC ⟨m,_,rfl,run_takeDeferred b,h⟩⟩
theorem ew(y:Yg):(rdI y).length<=2:=by unfold rdI;split<;>split<;>simp
structure Jy(V:Nat)(xs:List Xe):Prop where
 okf:UF xs
 vle:V<=2000
 ops:∀x∈xs,∀y∈x.is,1<=y.op/\y.op<=13
 kind:∀x∈xs,1<=x.te.kind/\x.te.kind<=3
 rdi:∀x∈xs,∀y∈x.is,∀v∈rdI y,0<=v/\v<V
 wri:∀x∈xs,∀y∈x.is,∀v∈writesI y,0<=v/\v<V
 rdt:∀x∈xs,∀v∈rdT x.te,0<=v/\v<V
 phd:∀x∈xs,∀p∈x.ps,0<=p.dst/\p.dst<V
 pha:∀t (h:t<xs.length),∀p∈xs[t].ps,p.args.length=(predsFrom xs 0 (t:Int)).length/\∀a∈p.args,0<=a/\a<V
 lens:∀x∈xs,x.is.length<=4000/\x.ps.length<=4000
theorem Vb(h:Tp r t T z=true)(a:r=true):T<=t/\t<z:=by
 subst a;simpa [Tp]using h
theorem sw(h:q∈x):Ul q<=Xo x:=by
 unfold Xo
 induction x with
 | nil=>cases h
 | cons y b a =>
  rcases cH.1 h with rfl | h
  ·simp
  ·have:=a h;simp;omega
theorem qR:∀a:List Ph,a.length<=XZ a
 | []=>aA _
 | p::a=>by have:=qR a;simp[XZ]at *;omega
theorem XH(h:XJ ⟨(n:Int),x⟩=true):Jy n x:=by
 have w:=Wz h;simp only[XJ,bY]at h;obtain⟨⟨⟨⟨j,o⟩,q⟩,r⟩,_⟩:=h;simp only[Y6,bY,bD]at j;have f:∀b∈x,∀y∈b.is,Yw (n:Int) 10 y=true:=fun b c y d=>dV.1 (dV.1 q b c) y d
 have l:∀b∈x,Zu (n:Int) 1 x.length b.te=true:=fun b c=>by
  have:=dV.1 o b c;simp only[Jf,bY]at this;exact this.1
 have k:=(Zr ZX ⟨(n:Int),x⟩ x 0).1 r;refine⟨w,oM,fun b c y d=>?_,fun b c=>?_,fun b c y d v a=>?_,fun b c y d v a=>?_,fun b c v a=>?_,fun b c p g=>?_,fun t i p g=>?_,fun b c=>?_⟩
 ·have:=f b c y d
  simp only[Yw,bY,bD]at this;omega
 ·have:=l b c
  simp only[Zu,bY,bD]at this;omega
 ·have:=f b c y d
  simp only[Yw,bY]at this;obtain⟨⟨⟨⟨_,_⟩,ha⟩,s⟩,_⟩:=this;unfold rdI at a;rcases bU.1 a with a | a
  ·by_cases e:aB y.op=true
   ·rw[aU e]at a
    have e2:v=y.a:=by simpa using a
    rw[e2];exact Vb ha e
   ·rw[aM e]at a;cases a
  ·by_cases e:bB y.op=true
   ·rw[aU e]at a
    have e2:v=y.b:=by simpa using a
    rw[e2];exact Vb s e
   ·rw[aM e]at a;cases a
 ·have:=f b c y d
  simp only[Yw,bY]at this;obtain⟨⟨⟨⟨_,u⟩,_⟩,_⟩,_⟩:=this;unfold writesI at a;by_cases e:dB y.op=true
  ·rw[aU e]at a
   have e2:v=y.dst:=by simpa using a
   rw[e2];exact Vb u e
  ·rw[aM e]at a;cases a
 ·have:=l b c
  simp only[Zu,bY]at this;obtain⟨⟨⟨_,ha⟩,_⟩,_⟩:=this;unfold rdT at a;by_cases e:(b.te.kind != 1)=true
  ·rw[aU e]at a
   have e2:v=b.te.a:=by simpa using a
   rw[e2];exact Vb ha e
  ·rw[aM e]at a;cases a
 ·obtain⟨t,i,rfl⟩:=bR c
  have:=dV.1 (k t i) p g;simp only[ZX,bY]at this;exact Vb this.1 rfl
 ·have:=dV.1 (k t i) p g
  simp only[ZX,Jt,bY,bD,dV]at this;rw[aV]at this;exact⟨this.2.1.2,fun m ha=>this.2.2 m ha⟩
 ·have:=sw c
  have z:=j.2;have:=qR b.ps;unfold Ul at *;omega
def X9(l:List Int):List Nat:=l.map Int.toNat
theorem Kv(h:∀v∈l,0<=v):(X9 l).map Int.ofNat=l:=by
 unfold X9;rw[jO]
 conv=>rhs;rw[<-List.map_id l]
 apply gH;intro v a;have:=h v a;simp[Function.comp];omega
theorem YV(h:∀v∈l,0<=v):n∈X9 l↔(n:Int)∈l:=by
 unfold X9;rw[aY];constructor
 ·rintro⟨v,a,rfl⟩
  have:=h v a;rw[show((v.toNat:Nat):Int)=v by omega];exact a
 ·intro b
  exact⟨_,b,oM⟩
def phT(a:List Xe)(t:Nat)(b:List Ph):List (Nat × Nat):=b.flatMap fun p=>(XX a a.length t).zip (X9 p.args)
def phB(a:List Xe)(t:Nat):List (Nat × Nat):=(a[t]?).elim [] fun x=>phT a t x.ps
def phE(a:List Xe)(k:Nat):List (Nat × Nat):=(List.range k).flatMap (phB a)
end Go.Proofs.YtghnlncgiihhgaaGreatDoor
