import Derived.Laws.CopyOwn
import Derived.Test.YtffcajcgkblkoaaGreatDoorW14
namespace Go.Proofs.YtffcajcgkblkoaaGreatDoor
set_option maxHeartbeats 4000000
set_option maxRecDepth 100000
open Go.RowKit Go.Shelf Go.Proofs.Tryz
variable{E:Array Value}{t:Int}{l:List Int}{s:List Nat}{y:List Value}{x:List Xe}{n m k B g i c:Nat}{f F:Nat->Nat}{M N:Nat->Nat->Nat}{d:Nat->Prop}{p:Option Addr}{R:Program}{a A:Value}{w v u:World}{q:Xe}
section
attribute [local go_sem] Oper.semAt_some
structure UI(x:Xe)(L B Bx n₀ n₁:Nat)(V:World):Prop where
 op:Yy V
 ter:Yb V
 blk:Tk V L B Bx 0 x
 lt:Bx<n₁
 le:B<=n₀
 g1:0 < n₀
 g2:1 < n₀
 nn:n₀<=n₁
theorem UI.same{Bx:Nat}(h:UI q n m Bx k B w)(e:∀a,a<B->v.heap[a]?=w.heap[a]?)(b:w.heap.size<=v.heap.size):UI q n m Bx k B v :=
 ⟨h.op.of_block (e _<|aX h.g1 h.nn) b,h.ter.of_block (e _<|aX h.g2 h.nn) b,h.blk.keepS (λa _ c=>e a<|aX (aX c h.le) h.nn) (e _ h.lt),h.lt,h.le,h.g1,h.g2,h.nn⟩
theorem UI.below{Bx:Nat}(h:UI q n m Bx k B w)(a:Below w.heap.size w v)(c:B<=w.heap.size):UI q n m Bx k B v:=h.same (λi b=>a.block i oM) a.size
theorem UI.kp{Bx:Nat}(h:UI q n m Bx k B w)(a:Zf k d w v)(f:∀a,n<=a->a<m->¬d a)(l:¬d Bx)(g:¬d 0)(j:¬d 1):UI q n m Bx k B v:=by
 have o:v.heap[Bx]?=w.heap[Bx]?:=by
  let⟨s,t,p,r,c,_⟩:=h.blk;exact a.block c l
 exact⟨h.op.of_block (a.low _ h.g1 g) a.size,h.ter.of_block (a.low _ h.g2 j) a.size,h.blk.keepS (λi e b=>a.low i (aX b h.le) (f i e b)) o,h.lt,h.le,h.g1,h.g2,h.nn⟩
end
section
variable {F: Fence} {n: Nat} {P: Program} {α: Type}
theorem Ze.keepsF{W V:World}{D:Nat}{r:Loop}(h:Ze W D r)(k:KeepsFrom D W V):Ze V D r:=⟨k.same _ _ oM h.1 rfl,k.same _ _ (aA _) h.2 rfl⟩
theorem JE{A V:World}{B a:Nat}(h:KeepsFrom B A V)(e:B<=a):KeepsFrom a A V:=⟨h.size,λk o d b c=>h.same k o oM b c⟩
end
section
variable {F: Fence} {n: Nat} {P: Program} {α: Type}
def gy(F:Fence)(n:Nat)(P:Program)(j:Nat)(k:Array Value)(i:Nat->α->Array Value)(h:Nat->α->World->Prop)(d:World->World->Prop)(S Sp:List α->Prop)(N:Nat)(turn m:Prop)(w:World):Prop :=
 ∀(l:Nat)(J:Nat->List α->World->Prop)(c:List α->World->Prop)(W:World),Below w.heap.size w W->l<W.heap.size->(∀z,OwnFrom W.heap.size<|J z)->OwnFrom W.heap.size c->(turn->∀z s V a,W.heap.size<=z->J z s V->V.grownBy a (some z)->J z s a) ->
  (m->(∀z g s V a,W.heap.size<=g->J z s V->Below W.heap.size V a->J g s a)/\∀s V a,c s V->Below W.heap.size V a->c s a) ->
  (∀z b x V,W.heap.size<=z->J z b V->h z x V->b.length<N->YieldAt F (n-1) P l (i z x) V λe a=>(e=.returned (.bool true)/\J z (b++[x]) a/\d V a/\KeepsFrom W.heap.size V a)\/(e=.returned (.bool false)/\c (b++[x]) a/\d V a/\KeepsFrom W.heap.size V a)) ->
  (∀z V,W.heap.size<=z->z<V.heap.size->Below W.heap.size W V->J z [] V)->CallsIn F n P j (#[.func (.yield l) #[] #[]]++k) W λe V=>(∃v,e=.returned v)/\((∃z f,W.heap.size<=z/\S f/\J z f V)\/∃b,Sp b/\c b V)
def BO{α:Type}(B:Nat)(a:World->World->Prop)(I:List α->World->Prop)(c:Code->List α->World->Prop)(b:List α)(W:World):Exit->Act->World->Prop
 |.normal,_,W'=>KeepsFrom B W W'/\a W W'/\I b W'
 |.ret,_,W'=>KeepsFrom B W W'/\a W W'/\c .ret b W'
 |.exit id,_,W'=>KeepsFrom B W W'/\a W W'/\c (.exit id) b W'
 |.goto t,_,W'=>KeepsFrom B W W'/\a W W'/\c (.goto t) b W'
 |.panic _,_,_=>False
 |.outgrown,_,_=>False
theorem jw{ao:Operand}{j:Array Tmp}{l m:Code}{Z:Exit->Act->World->Prop}{e:Act}{w:World}(br:F.round=none)(h1:1<=n){gf:Nat}{lb:Array Value}(hg:e.eval ao=.func (.func gf) #[] lb)(a6:F.fn gf)(eg:∀args w,(callFunc gf args).run P w=.ok (.enter gf args) w)
 {aa:Nat->α->Array Value} {G:Nat->α->World->Prop} {B:World->World->Prop} {al Sp:List α->Prop} {aj:Nat} {turn a2:Prop} {w0:World} (bt:gy F (n-1) P gf lb aa G B al Sp aj turn a2 w0) (a8:∀z,OwnFrom w.heap.size<|G z) (v:∀{A ac ad:World},B A ac->B ac ad->B A ad) (J:∀(W:World)(y:Nat)(o o':Obj),w.heap.size<=y->W.heap[y]?=some o->o.isCells=false->B W (W.putObj y o')) (ar:Below w0.heap.size w0 w) (bn:∀z x,(aa z x).size=j.size)
 (I:Nat->List α->World->Prop) (C:Code->List α->World->Prop) (M:∀z,OwnFrom w.heap.size<|I z) (H:∀c,OwnFrom w.heap.size<|C c) (a7:turn->∀z s V g,w.heap.size<=z->I z s V->V.grownBy g (some z)->I z s g) (a0:a2->(∀z X s V g,w.heap.size<=X->I z s V->Below (w.heap.size+2) V g->I X s g)/\∀c s V g,C c s V->Below (w.heap.size+2) V g->C c s g) (h0:∀z V,w.heap.size<=z->z<V.heap.size->Below w.heap.size w V->I z [] V) (Y:Nat->α->Act->World->Prop) (a4:∀z x u,OwnFrom w.heap.size λ(_:Unit) W=>Y z x u W)
 (ba:∀(y z:Nat)(d:List α)(x:α)(W:World)(af:Act->World->Prop),w.heap.size<=z->I z d W->G z x W->(∀u q,KeepsOthers W q->B W q->I z d q->G z x q->Y z x u q->af u q)->l.wpIn (F.inRound y) (n-1-1) P (Exit.then af λ_ _ _=>False) { tmps:=(j.zip<|aa z x).foldl (λT (p,a1)=>T.setIfInBounds p a1) e.tmps,defers:=[] } W)
 (bc:∀(y z:Nat)(d:List α)(x:α)(u:Act)(W:World),w.heap.size<=z->w.heap.size<=y->(∃S,W.heap[y]?=some (.loop S))->I z d W->G z x W->Y z x u W->d.length<aj->m.wpIn (F.inRound y) (n-1-1) P (BO w.heap.size B (I z) C (d++[x]) W) u W)
 (bd:∀(D z:Nat)(U:List α)(W:World),w.heap.size<=D->w.heap.size<=z->al U->I z U W->W.heap[D]?=some (.deferred (some []))->Z .normal { e with defers:={ target:=.collected D,args:=#[] }:: e.defers } W)
 (bv:∀(D:Nat)(c:Code)(d:List α)(W:World),w.heap.size<=D->Sp d->C c d W->W.heap[D]?=some (.deferred (some []))->c.wpIn F n P Z { e with defers:={ target:=.collected D,args:=#[] }:: e.defers } W) :
 (Code.rangeFunc ao j l m).wpIn F n P Z e w:=by
 refine wpIn_rangeFunc λfn bf=>?_;rw[br];have az:=run_enterLoop_outer (P:=P) (w:=w) fn e.tmps j l m;generalize N:(w.alloc<|.deferred (some [])).alloc (.loop { state:=.ready,pending:=none,fn,tmps:=e.tmps,params:=j,assign:=l,body:=m,defers:=w.heap.size })=t at az;have aq:Ze t w.heap.size (KR fn e.tmps j l m w.heap.size .ready none):=by
  subst N;refine⟨?_,?_⟩
  .have:=World.alloc_heap_new (w.alloc<|.deferred (some [])) (.loop (KR fn e.tmps j l m w.heap.size .ready none));rwa[aO]at this
  exact(Below.heap_alloc _ _ _ sP).trans (World.alloc_heap_new w _)
 have bz:t.heap.size=w.heap.size+2:=by subst N;simp
 have ap:Below w.heap.size w t:=by subst N;exact Xb (Xb (Below.refl w.heap.size w) _) _
 have a5:=ar.trans<|ap.mono ar.size;refine⟨_,_,t,{ target:=.fn (.func gf) lb,args:=#[.func (.yield (w.heap.size+1)) #[] #[]] },t,gf,#[.func (.yield (w.heap.size+1)) #[] #[]]++lb,t,az,?_,?_,?_,λ_=>h1,?_⟩
 .simp only[resolve,hg];simp[go_sem]
 .intro f' ax;simp[Target.leads]at ax;subst ax;exact a6
 .simp[invoke,go_sem,eg]
 have ow:∀{S:Loop}{A V:World}{row:Option Nat},Ze A w.heap.size S->A.grownBy V row->(∀k,row=some k->t.heap.size<=k/\∃o:Obj,A.heap[k]?=some o/\o.isCells=false)->Ze V w.heap.size S:=λab k r=>ab.own k (λz h=>by have:=(r z h).1;omega);have fr:∀{A:World}{row:Option Nat},(∀k,row=some k->t.heap.size<=k/\∃o:Obj,A.heap[k]?=some o/\o.isCells=false)->∀k,row=some k->w.heap.size<=k/\∃o:Obj,A.heap[k]?=some o/\o.isCells=false:=λr k h=>⟨oN<|(r k h).1,(r k h).2⟩
 refine(bt (w.heap.size+1) (λz d W=>I z d W/\Ze W w.heap.size (KR fn e.tmps j l m w.heap.size .ready none)) (λd W=>∃c,C c d W/\Ze W w.heap.size (KR fn e.tmps j l m w.heap.size .done<|some c)) t a5 oM
  (λz s A V row i k r=>⟨M z s A V row i.1 k<|fr r,ow i.2 k r⟩) (λs A V row i k r=>by let⟨c,hc,f⟩:=i;exact⟨c,H c s A V row hc k<|fr r,ow f k r⟩) (λht z s V g Q i k=>⟨a7 ht z s V g oM i.1 k,i.2.own k λr h=>by injection h with h;omega⟩)
  (λa=>⟨λz X s V g Q i k=>⟨(a0 a).1 z X s V g oM i.1 (k.mono oM),⟨(k.block _ oM).trans i.2.1,(k.block _ oM).trans i.2.2⟩⟩,λs V g i k=>by let⟨c,hc,f⟩:=i;exact⟨c,(a0 a).2 c s V g hc (k.mono oM),⟨(k.block _ oM).trans f.1,(k.block _ oM).trans f.2⟩⟩⟩) ?_ λz V Q bw hV=>⟨h0 z V oM bw<|ap.trans (hV.mono oM),⟨(hV.block _ oM).trans aq.1,(hV.block _ oM).trans aq.2⟩⟩).mono ?_
 .rintro z d x W Q⟨K,f⟩ bp bm;have hy:=run_yield (P:=P) f.1 (bn z x);refine⟨_,_,_,_,hy,roundIn_of_wpIn bf<|ba _ z d x W _ oM K bp λu q ay bl bi bq bb=>?_⟩;have E:=f.keeps ay;refine⟨_,run_beginRound E.1 rfl,?_⟩;have L:Ze (q.putObj (w.heap.size+1) (.loop (KR fn e.tmps j l m w.heap.size .busy none))) w.heap.size (KR fn e.tmps j l m w.heap.size .busy none):=E.put _;have O:B W (q.putObj (w.heap.size+1) (.loop (KR fn e.tmps j l m w.heap.size .busy none))):=v bl<|J _ _ _ _ oM E.1 rfl;refine wpIn_mono (bc _ z d x u _ oM oM ⟨_,L.1⟩ ((M z).putObj _ bi oM E.1 rfl) ((a8 z).putObj _ bq oM E.1 rfl) ((a4 z x u).putObj (s:=()) _ bb oM E.1 rfl) bm) ?_;have R:∀{V:World}(o:Obj),KeepsFrom w.heap.size (q.putObj (w.heap.size+1) (.loop (KR fn e.tmps j l m w.heap.size .busy none))) V->KeepsFrom t.heap.size W (V.putObj (w.heap.size+1) o):=λ{V} o ab=>(((ay.from _).trans (KeepsFrom.of_grownBy (grownBy_putObj' q _ _) λbx h=>by cases h;omega)).trans (JE ab oM)).trans (KeepsFrom.of_grownBy (grownBy_putObj' V _ _) λbx h=>by cases h;omega);rintro h a3 V b;cases h with
  |normal=>
   have a:=L.keepsF b.1;exact⟨_,_,a.fin none,.inl ⟨rfl,⟨(M z).putObj _ b.2.2 oM a.1 rfl,a.put _⟩,v (v O b.2.1) (J _ _ _ _ oM a.1 rfl),R _ b.1⟩⟩
  |ret=>
   have a:=L.keepsF b.1;exact⟨_,_,a.fin<|some .ret,.inr ⟨rfl,⟨.ret,(H _).putObj _ b.2.2 oM a.1 rfl,a.put _⟩,v (v O b.2.1) (J _ _ _ _ oM a.1 rfl),R _ b.1⟩⟩
  |exit id=>
   have a:=L.keepsF b.1;exact⟨_,_,a.fin<|some (.exit id),.inr ⟨rfl,⟨.exit id,(H _).putObj _ b.2.2 oM a.1 rfl,a.put _⟩,v (v O b.2.1) (J _ _ _ _ oM a.1 rfl),R _ b.1⟩⟩
  |goto T=>
   have a:=L.keepsF b.1;exact⟨_,_,a.fin<|some (.goto T),.inr ⟨rfl,⟨.goto T,(H _).putObj _ b.2.2 oM a.1 rfl,a.put _⟩,v (v O b.2.1) (J _ _ _ _ oM a.1 rfl),R _ b.1⟩⟩
  |panic ch=>exact b.elim
  |outgrown=>exact b.elim
 rintro h V⟨⟨a1,rfl⟩,(⟨z,U,Q,hS,K,f⟩|⟨d,a9,c,K,f⟩)⟩;·exact⟨none,_,run_endLoop f.1 (by simp[KR]),bd _ z U _ (aA _) oM hS ((M z).putObj _ K oM f.1 rfl) (f.put _).2⟩
 exact⟨some c,_,run_endLoop f.1 (by simp[KR]),bv _ c d _ (aA _) a9 ((H c).putObj _ K oM f.1 rfl) (f.put _).2⟩
end
theorem xO(n k:Nat):Us n k <+: Us n 0:=by
 unfold Us;rw[show n-0=n by omega,aW (by simp:(List.finRange n).reverse.length<=n)];exact List.take_prefix _ _
theorem CQ(F:Fence)(n:Nat)(G:F.fn 132)(U:F.round=none)(Z:1<=n)(m i u C:Nat)(h:Nat->Prop)(p:Option Addr)(a:List Yg)(L B:Nat)(aa:a.length<=1000000)(M:∀k,L<=k->k<B->¬h k)(N:¬h i)(J o:List (Fin a.length)->World->Prop)
 (P:∀(d:List (Fin a.length))(x:Fin a.length)(W:World),J d W->d.length<a.length->YieldAt F (n-1) prog m #[Hp ((x:Nat):Int),iq a[x]] W λf e=>
  (f=.returned (.bool true)/\J (d++[x]) e/\Zf u h W e)\/(f=.returned (.bool false)/\o (d++[x]) e))
 (W:World) (H:W.cell? (Hk i 0)=some (.slice p a.length C)) (Q:Hs (YY W L B p a)) (E:J [] W) :
 CallsIn F n prog 132 #[.func (.yield m) #[] #[],Hn i] W λf e=>(∃V,f=.returned V) /\
  ((∃A,A=Us a.length 0/\J A e)\/(∃d,(∃q,d=Us a.length q)/\o d e)):=by
 refine iD func132 rfl G ?_ U;simp only[ntmps132,xY,Nat.reduceAdd,Nat.reduceSub];gi_wp2
 gi_loopw [3] (λl wr=>∃(k:Nat)(z:Int),k<=a.length/\l=Hp z/\z+1=(k:Int)/\J (Us a.length k) wr/\Zf u h W wr)
  (λl _=>(intOf l+1).toNat)
 case atStart=>exact⟨a.length,_,aA _,rfl,oM,by rw[Ua];exact E,Zf.refl _⟩
 obtain⟨k,z,S,rfl,ac,r,c⟩:=hrel;have Y:=c.cell H N;cases k with
 |zero=>
  have j:z=-1:=oM;subst j;gi_wp2
  go_end0
  exact⟨⟨_,rfl⟩,.inl ⟨_,rfl,r⟩⟩
 |succ q=>
  have j:z=(q:Int):=oM;subst j;have hq:q<a.length:=S;let⟨b,ad,D,s,R⟩:=Q q hq;subst D;have g:=M b s.1 s.2;let⟨v,q1,q2,w,y⟩:=R;have r0:=c.cell v g;have r1:=c.cell q1 g;have r2:=c.cell q2 g;have r3:=c.cell w g;have r4:=c.cell y g;let⟨fn,tmps,assign,body,t,O⟩:=P _ ⟨q,hq⟩ wr r (by rw[Vf];omega);have ab:(Instr.yield m #[Hp ((q:Nat):Int),.agg #[Hp a[q].op,Hp a[q].dst,Hp a[q].a,Hp a[q].b,Hp a[q].imm]]).run prog wr=_:=t;gi_wp2;refine O.mono ?_;rintro f X (⟨rfl,I,T⟩|⟨rfl,K⟩)
  .gi_wp2
   go_roundw
   case rel=>exact⟨q,_,oM,rfl,oM,by rw[TJ hq];exact I,c.trans T⟩
   simp[intOf]
  gi_wp2;refine cC (gV rfl _ _ _) rfl ?_;exact⟨⟨_,rfl⟩,.inr ⟨_,⟨q,(TJ hq).symm⟩,K⟩⟩
theorem VE(F:Fence)(n:Nat)(j:F.fn 132)(u:F.round=none)(s:1<=n)(b d f:Nat)(c:Nat->Prop)(e:Option Addr)(a:List Yg)(L B:Nat)(t:a.length<=1000000)(D:B<=d)(o:∀k,L<=k->k<B->¬c k)(p:¬c b)(w:World)(E:d<=w.heap.size)(l:b<w.heap.size)
 (r:w.cell? (Hk b 0)=some (.slice e a.length f)) (m:Hs (YY w L B e a)) :
 SeqStopsK F n prog 132 #[Hn b] (λx:Fin a.length=>#[Hp ((x:Nat):Int),iq a[x]]) (Zf d c) (λA=>A=Us a.length 0) (λy=>∃z,y=Us a.length z) a.length w:=λv J h W g _ _ q i=>
 CQ F n j u s v b d f c e a L B t o p J h q W (oB g r l) (Xa<|m.keepS λk _ C=>g.block k oM) i
section
attribute [local go_sem] Oper.semAt_some
theorem rg(b7 Bx bt bf:Nat)(Q:Nat->Prop)(Pd:Nat×List Int×List Int->Prop)(x:Xe)(M:World)(w:Hs (UI x bt bf Bx b7 M.heap.size M))(hM:Hs (∀k,bt<=k->k<bf->¬Q k))(bv:Hs (¬Q Bx))(a8:Hs (∀k,M.heap.size<=k->¬Q k))(dn:Hs (¬Q 0))(ds:Hs (¬Q 1))(gs:Hs (∀es∈x.is,1<=es.op/\es.op<=13))(ho:1<=x.te.kind/\x.te.kind<=3)(hm:x.is.length<=4000)(hn:x.ps.length<=4000)(cj:Hs (∀r∈Hw x,Pd r)) :
 gy Fence.wide 7 prog 114 #[Hn Bx] (λ_=>kr) (λ_=>ji M.heap.size Pd) (Zf b7 Q) (λv=>v.map Pl.dat=Hw x) (λv=>v.map Pl.dat <+: Hw x) (x.is.length+2) False False M:=by
 intro q J0 Jx W hW hl hJ dl _ _ hY h0;have HY:=Xa λi x V=>hY W.heap.size i x V<|aA _;have HJ:=Xa<|hJ W.heap.size;have H0:=Xa λV=>h0 W.heap.size V<|aA _;have HE:Hs (∀v V,v.map Pl.dat=Hw x->J0 W.heap.size v V->(∃et v,W.heap.size<=et/\v.map Pl.dat=Hw x/\J0 et v V)\/∃i,i.map Pl.dat <+: Hw x/\Jx i V):=Xa λv V g l=>.inl ⟨_,v,aA _,g,l⟩;have ce:=Xa dl;clear hY hJ h0 dl;generalize J0 W.heap.size=f7 at HY HJ H0 HE;have bc:=hW.size;have fs:=Xa<|w.below hW (aA _);refine callsIn_of_wp_marks func114 rfl trivial ?_ rfl;simp only[ntmps114,xY,Nat.reduceAdd,Nat.reduceSub];gi_wp2;have gc:(λx9:World=>Hs (Below W.heap.size W x9)/\x9.cell? (Hk W.heap.size 0)=some (.func (.yield q) #[] #[])/\x9.heap.size=W.heap.size+1) (W.alloc<|.cells #[.func (.yield q) #[] #[]] 198):=⟨Xa<|Xb (Below.refl _ _) _,(by simp[go_sem]),sP⟩;generalize W.alloc _=wa at*;obtain⟨cx,b6,h6⟩:=gc;have ch:=Xa<|fs.below cx.o bc;obtain⟨pa,pc,J,S,e0,e1,t0,gv,gl⟩:=ch.blk;simp only[aV]at e1 t0;clear e0 gv gl;obtain⟨k,hk⟩:=bX (show 0<=x.te.kind by omega);have gm:1<=k:=oM;have gp:k<=3:=oM;have HT:Hs (Va wa Bx 2 ⟨(k:Int),x.te.a,x.te.to,x.te.els⟩):=Xa (by rw[<-hk];exact t0);have G:=Xa<|yH Bx 2 k x.te.a x.te.to x.te.els wa.drew (Xa HT.o) gm gp (Xa ch.ter);have el:G2 ⟨(k:Int),x.te.a,x.te.to,x.te.els⟩=G2 x.te:=by unfold G2;simp only;rw[<-hk]
 rw[el]at G;have db:Hs ((G2 x.te).length<=1):=Xa (by unfold G2;split<;>simp);clear el t0;obtain⟨d,cs⟩:∃d,d=G2 x.te:=⟨_,rfl⟩;rw[<-cs]at G db;have ax:=Xa cs;clear cs;have hs:IntKind.i64.wrap ((x.is.length:Int)+1)=(x.is.length:Int)+1:=by rw[dF];omega
 refine Tc (λC=>C.cell? (Hk W.heap.size 0)=some (.func (.yield q) #[] #[])/\C.cell? (Hk Bx 1)=some (.slice J x.is.length S)) λhHeld=>?_;refine Yi 0 ?_;refine Yi 1 ?_;refine Yi 2 ?_;refine Yi 3 ?_;refine Yi 4 ?_;refine Yi 5 ?_;refine Yc 6 λP hK=>?_;go_simp;refine⟨trivial,(bM.2 G.o).mono ?_⟩;rintro e w5⟨v5,rfl,al,ej⟩;obtain⟨a5,c5,rfl,ea⟩:=Xk ej;have bx:Below wa.heap.size wa w5:=⟨al.os,al.tape,al.output,al.size,al.block⟩;have cw:=Xa bx;have y5:=(XU bx oM).trans b6;have i5:=oB bx e1 (by have:=w.lt;show Bx<_;omega);have ez:Hs (Xf w5 wa.heap.size w5.heap.size a5 d):=Xa ea;have O:=Xa<|Yz a5 d.length c5 d wa.heap.size w5.heap.size w5 ez (Xa rfl) (oN db.o) (aA _);clear al ej ea G bx;refine hK _ _ ⟨y5,i5⟩ λhHeld=>?_;clear hK;refine Yc 7 λP hK=>?_;go_simp;refine⟨trivial,(bM.2 O.o).mono ?_⟩;rintro e w6⟨a6,c6,rfl,ck,eb⟩;have ao:=Xa<|Xg cw.o ck;have y6:=(XU ao.o oM).trans b6;have i6:=oB ao e1 (by have:=w.lt;show Bx<_;omega);have e6:=Xa eb;have hz:=ao.size;have h5:=ck.size;have hx:=cw.size;clear ck eb O y5 i5;refine hK _ _ ⟨y6,i6⟩ λhHeld=>?_;clear hK;refine Yi 8 ?_;have fr:=Xa<|ch.below ao.o oM;have e9:=Xa<|H0.o w6 oM (Xg cx.o ao.o);obtain⟨fn,tmps,dj,bo,R,s⟩:=HY.o [] ⟨x.is.length+1,a6,c6,d,none,0,[]⟩ w6 e9.o ⟨cj.o _ (by show((x.is.length+1:Nat),d,([]:List Int))∈Hw x;rw[ax.o];exact cI),e6.mono oM<|aA _,λm hi=>absurd hi sP⟩ sP;have I:(Instr.yield q #[Hp<|(x.is.length:Int)+1,.agg #[.slice a6 d.length c6,Hq]]).run prog w6=_:=R;clear R;refine Yc 9 λP hK=>?_;go_simp;refine s.mono ?_;rintro e p (⟨rfl,ay,A,b1⟩|⟨rfl,ay,A,b1⟩);rotate_left
 .have cb:=Xa ay;have E:=A.cell y6<|a8.o _ bc;have i3:=A.cell i6 bv.o;clear ay A b1 I s;refine hK _ _ ⟨E,i3⟩ λhHeld=>?_;clear hK hHeld;have hHeld:(λC:World=>C.cell? (Hk W.heap.size 0)=some (.func (.yield q) #[] #[])/\C.cell? (Hk Bx 1)=some (.slice J x.is.length S)) p:=⟨E,i3⟩;refine Yi 10 ?_;refine ZV ?_;clear hHeld y6 i6 b6 e1;gi_wp2;exact⟨.tuple #[],gV rfl _ _ _,⟨_,rfl⟩,.inr ⟨_,by show[((x.is.length+1:Nat),d,([]:List Int))] <+: Hw x;rw[ax.o];exact⟨_,rfl⟩,cb.o⟩⟩
 have cb:=Xa ay;have g9:=Xa A;have g8:=Xa b1;have fi:=Xa<|fr.kp A hM.o bv.o dn.o ds.o;have E:=A.cell y6<|a8.o _ bc;have i3:=A.cell i6 bv.o;have hw:=A.size;clear ay A b1 I s;refine hK _ _ ⟨E,i3⟩ λhHeld=>?_;clear hK hHeld
 try simp only[xX]
 have hHeld:(λC:World=>C.cell? (Hk W.heap.size 0)=some (.func (.yield q) #[] #[])/\C.cell? (Hk Bx 1)=some (.slice J x.is.length S)) p:=⟨E,i3⟩;refine Yi 10 ?_;refine ZV ?_;clear hHeld y6 i6 b6 e1;gi_wp2;refine⟨trivial,(V6 Fence.wide 6 trivial rfl J x.is.length S p).mono ?_⟩;rintro e D⟨rfl,b5⟩;have y:Below p.heap.size p D:=by rw[b5];exact Xb (Below.refl _ _) _
 have eq:D.heap.size=p.heap.size+1:=by rw[b5];simp
 have em:D.cell? (Hk p.heap.size 0)=some (.slice J x.is.length S):=by rw[b5];simp[go_sem]
 have dd:=Xa<|fi.below y oM;have e8:=Xa<|XO HJ.o cb.o y;have y4:=(XU y oM).trans E;have eu:=Xa y;have I3:=Xa i3;clear b5 y E i3;have fl:=Xa em;have hb:=Xa eq;have g3:W.heap.size<D.heap.size:=oM;have fx:Hs (p.heap.size<D.heap.size):=Xa oM;have N:Hs (M.heap.size<=D.heap.size):=Xa oM;have fz:=Xa y4;clear em eq y4;gi_wp2
 have gd:¬Q p.heap.size:=a8.o _ oM;refine wpIn_rangeFunc_ownH (F:=Fence.wide) (n:=7) rfl vZ (gf:=132) (lb:=#[Hn p.heap.size]) rfl trivial (enters_of func132 kR rfl) (VE Fence.wide 6 trivial rfl vZ p.heap.size b7 S Q J x.is bt bf oM w.le hM.o gd D (aJ w.nn N.o) fx.o fl.o (Xa ?inss)) (λH k=>H.trans k) (λV T o o' g l h _=>Zf.putObj V T o o' (aJ w.nn<|aJ N.o g) l h) (Below.refl _ _) (λ_=>rfl)
  (λi V=>∃a:List Pl,a.map Pl.dat=(x.is.length+1,d,[])::i.map (VH x)/\f7 a V/\UI x bt bf Bx b7 M.heap.size V/\V.cell? (Hk W.heap.size 0)=some (.func (.yield q) #[] #[])/\D.heap.size<=V.heap.size)
  (λc i V=>c=.ret/\∃a:List Pl,a.map Pl.dat=(x.is.length+1,d,[])::i.map (VH x)/\Jx a V)
  ?ownI ?ownX ?start
  (λj a' V=>∃f,a'=⟨#[.func (.yield q) #[] #[],Hn Bx,Hn W.heap.size,Hp ((j:Nat):Int),Hn f,undef,undef,undef,.func (.yield q) #[] #[],Ho Bx 1,.slice J x.is.length S,Hp (x.is.length:Int),Hp<|(x.is.length:Int)+1,Ho Bx 2,.slice a5 d.length c5,.slice a6 d.length c6,.agg #[.slice a6 d.length c6,Hq],.bool true,.bool false,Ho Bx 1,.slice J x.is.length S,.func (.func 132) #[] #[Hn p.heap.size],Hp ((j:Nat):Int),iq x.is[j],undef,undef,undef,undef,undef,undef,undef,undef,undef,undef,undef,undef,undef,undef,undef,undef,undef,undef,undef,undef,undef,undef,undef,undef,undef,undef,undef,undef,undef],[]⟩/\D.heap.size<=f/\Jk V f 0 x.is[j]) ?ownA ?assign ?body ?done ?stop
 case inss=>
  obtain⟨g5,g6,er,g4,_,f1,_,_,f4⟩:=dd.blk;simp only[aV]at f1;have gi:er=J:=by
   have h:=oB eu I3.o (by show Bx<_;have:=w.lt;omega);rw[f1]at h;injection h with h;injection h
  rw[<-gi];exact f4
 case ownI=>
  rintro i X V row⟨a,n,K,B,u,p5⟩ k r;have d1:∀m,m<D.heap.size->V.heap[m]?=X.heap[m]?:=λm hi=>k.block m oM (λe=>by have:=(r m e.symm).1;omega);refine⟨a,n,HJ.o a X V row K k λbd e=>⟨oN<|(r bd e).1,(r bd e).2⟩,B.same (λm hi=>d1 m<|aX hi N.o) k.size,?_,aJ p5 k.size⟩;exact(Xc<|d1 _ g3).trans u
 case ownX=>
  rintro c i X V row⟨rfl,a,p0,n⟩ k r;exact⟨rfl,a,p0,ce.o a X V row n k λbd e=>⟨oN<|(r bd e).1,(r bd e).2⟩⟩
 case start=>exact⟨[⟨x.is.length+1,a6,c6,d,none,0,[]⟩],rfl,e8.o,dd.o,fz.o,aA _⟩
 case ownA=>
  rintro j a' _ X V row⟨f,e,d0,z⟩ k r;have gf:V.heap[f]?=X.heap[f]?:=by
   obtain⟨o,g,l⟩:=Yn z.1;refine k.block f (aS.1 g).1 λe=>?_;obtain⟨_,o2,h,h4⟩:=r f e.symm;rw[show X.heap[f]?=some o from g]at h;injection h with h;subst h;rw[l]at h4;cases h4
  have t:=λo=>Xc (o:=o) gf;exact⟨f,e,d0,(t _).trans z.1,(t _).trans z.2.1,(t _).trans z.2.2.1,(t _).trans z.2.2.2.1,(t _).trans z.2.2.2.2⟩
 case assign=>
  intro T i j V P hI hK;have HI:=Xa hI;have fa:=Xa hK;clear hI hK;unfold iq;gi_wp2;have aa:Below V.heap.size V (V.alloc<|.cells #[Hp x.is[j].op,Hp x.is[j].dst,Hp x.is[j].a,Hp x.is[j].b,Hp x.is[j].imm] 48):=Xb (Below.refl _ _) _;obtain⟨a,n,K,B,u,p5⟩:=HI.o;refine fa.o _ _ ⟨aa.size,λk o _ g _=>(aa.block k (aS.1 g).1).trans g⟩ (Zf.of_below aa<|oP N.o w.nn) ⟨a,n,XO HJ.o K aa,B.below aa<|oN N.o,oB aa u oM,aJ p5 aa.size⟩ ⟨V.heap.size,rfl,p5,?_⟩;exact⟨by simp[go_sem],by simp[go_sem],by simp[go_sem],by simp[go_sem],by simp[go_sem]⟩
 case body=>
  rintro T i j a' V hg _⟨a,n,K,B,u,p5⟩ ⟨f,rfl,d0,z⟩ hh;have F:=Xa n;have cf:=Xa K;have bq:=Xa B;have gr:=gs.o x.is[j] (aH _);obtain⟨kk,b3⟩:=bX (show 0<=x.is[j].op by omega);have ed:1<=kk:=oM;have ee:kk<=13:=oM;have ge:f<V.heap.size:=aI V _ z.1;have ad:Hs (Jk V f 0 ⟨(kk:Int),x.is[j].dst,x.is[j].a,x.is[j].b,x.is[j].imm⟩):=Xa (by rw[<-b3];exact z);have ek:Ft ⟨(kk:Int),x.is[j].dst,x.is[j].a,x.is[j].b,x.is[j].imm⟩=Ft x.is[j]:=by rw[<-b3]
  have ep:BW ⟨(kk:Int),x.is[j].dst,x.is[j].a,x.is[j].b,x.is[j].imm⟩=BW x.is[j]:=by rw[<-b3]
  have G:=Xa<|r6 f kk x.is[j].dst x.is[j].a x.is[j].b x.is[j].imm V.drew (Xa ad.o) ed ee (Xa bq.op);have br:Hs (∀V',Below V.heap.size V V'->_):=Xa (λV' (hV:Below V.heap.size V V')=>UH f kk x.is[j].dst x.is[j].a x.is[j].b x.is[j].imm V' (Xa (by
   have t:=λo=>hV.cell (p:=Hk f o) ge
   exact⟨(t _).trans ad.1,(t _).trans ad.2.1,(t _).trans ad.2.2.1,(t _).trans ad.2.2.2.1,(t _).trans ad.2.2.2.2⟩)) ed ee (Xa (bq.below hV<|oN N.o).op))
  rw[ek]at G;simp only[ep]at br;obtain⟨U,b4⟩:∃L,L=Ft x.is[j]:=⟨_,rfl⟩;obtain⟨di,b0⟩:∃L,L=BW x.is[j]:=⟨_,rfl⟩;rw[<-b4]at G;simp only[<-b0]at br;have ci:=Xa b4;have b8:=Xa b0;have hp:U.length<=2:=by rw[b4];exact jx _
  have he:di.length<=1:=by rw[b0];unfold BW;split<;>simp
  clear b4 b0 ek ep z n K B b3 gr;have cg:Hs (a.length<x.is.length+1):=Xa (by
   have H:=fI List.length F.o;simp at H;omega)
  have hr:IntKind.i64.wrap (((j:Nat):Int)+1)=((j:Nat):Int)+1:=by have:=j.isLt;rw[dF];omega
  gi_wp2;refine Tc (λC=>C.cell? (Hk W.heap.size 0)=some (.func (.yield q) #[] #[])) λhHeld=>?_;refine Yi 0 ?_;refine Yi 1 ?_;refine Yi 2 ?_;refine Yc 3 λP hK=>?_;go_simp;refine⟨trivial,(CallsIn.inRound T<|bM.2 G.o).mono ?_⟩;rintro e V1⟨v1,rfl,aj,eg⟩;obtain⟨a1,c1,rfl,d2⟩:=Xk eg;have ac:Hs (Below V.heap.size V V1):=Xa ⟨aj.os,aj.tape,aj.output,aj.size,aj.block⟩;have c7:Hs (Xf V1 V.heap.size V1.heap.size a1 U):=Xa d2;have y1:=(XU ac.o oM).trans u;have O:=Xa<|Yz a1 U.length c1 U V.heap.size V1.heap.size V1 c7 (Xa rfl) oM (aA _);clear aj eg d2 G;refine hK _ _ y1 λhHeld=>?_;clear hK;refine Yc 4 λP hK=>?_;go_simp;refine⟨trivial,(CallsIn.inRound T<|bM.2 O.o).mono ?_⟩;rintro e V2⟨a2,c2,rfl,du,d3⟩;have bm:=Xa<|Xg ac.o du;have c8:=Xa<|d3.mono ac.size (aA _);have y2:=(XU bm.o oM).trans u;have df:=Xa<|br.o V2 bm.o;clear du d3 O br y1 c7 ac;refine hK _ _ y2 λhHeld=>?_;clear hK;refine Yc 5 λP hK=>?_;go_simp;refine⟨trivial,(CallsIn.inRound T<|bM.2 df.o).mono ?_⟩;rintro e V3⟨v3,rfl,bw,ei⟩;obtain⟨a3,c3,rfl,d4⟩:=Xk ei;have c9:=Xa<|(c8.keep bw).mono (aA _) bw.size;have bn:=Xa<|Xg bm.o bw;have da:=Xa d4;have E:=(XU bn.o oM).trans u;have O:=Xa<|Yz a3 di.length c3 di V2.heap.size V3.heap.size V3 da (Xa rfl) oM (aA _);clear bw ei d4 df y2 bm c8 da;refine hK _ _ E λhHeld=>?_;clear hK;refine Yc 6 λP hK=>?_;go_simp;refine⟨trivial,(CallsIn.inRound T<|bM.2 O.o).mono ?_⟩;rintro e V4⟨a4,c4,rfl,y,d5⟩;have ev:=Xa<|(c9.keep y).mono (aA _) y.size;have Z:=Xa<|Xg bn.o y;have ey:=Xa<|d5.mono bn.size (aA _);have y4:=(XU Z.o oM).trans u;clear y d5 O E bn c9;refine hK _ _ y4 λhHeld=>?_;clear hK;refine Yi 7 ?_;have af:M.heap.size<=V.heap.size:=oN N.o;have fq:=Xa<|bq.below Z.o af;obtain⟨fn,tmps,dj,bo,R,s⟩:=KY (l':=T) (m':=4) (HY.o a ⟨(j:Nat)+1,a2,c2,U,a4,c4,di⟩ V4 (XO HJ.o cf.o Z.o) ⟨cj.o _ (by have H:=qJ x j;unfold VH at H;rw[<-ci.o,<-b8.o]at H;exact H),ev.mono af<|aA _,ey.mono af<|aA _⟩ (oN cg.o));have I:(Instr.yield q #[Hp<|((j:Nat):Int)+1,.agg #[.slice a2 U.length c2,.slice a4 di.length c4]]).run prog V4=_:=R;clear R;refine Yc 8 λP hK=>?_;go_simp;refine s.mono ?_;rintro e V5 (⟨rfl,az,ab,a9⟩|⟨rfl,az,ab,a9⟩);rotate_left
  .have y5:=ab.cell y4<|a8.o _ bc;have cc:=Xa az;have bp:=Xa ab;have ca:=Xa a9;clear az ab a9 I s;refine hK _ _ y5 λhHeld=>?_;clear hK;refine Yi 9 ?_;refine ZV ?_;gi_wp2;have bb:=(Zf.of_below Z.o<|aJ w.nn af).trans bp.o;refine⟨⟨bb.size,λk o g l h=>ca.same k o oM ((Z.block k (aS.1 l).1).trans l) h⟩,rfl,a++[⟨(j:Nat)+1,a2,c2,U,a4,c4,di⟩],?_,cc.o⟩;rw[bG,F.o,bG];show _=(x.is.length+1,d,[])::(i.map (VH x)++[VH x j]);rw[<-cW];congr 1;unfold VH Pl.dat;simp only[eH,fZ];rw[ci.o,b8.o]
  have y5:=ab.cell y4<|a8.o _ bc;have cc:=Xa az;have bp:=Xa ab;have ca:=Xa a9;clear az ab a9 I s;refine hK _ _ y5 λhHeld=>?_;clear hK
  try simp only[xX]
  refine Yi 9 ?_;refine ZV ?_;gi_wp2;have bb:=(Zf.of_below Z.o<|aJ w.nn af).trans bp.o;refine⟨⟨bb.size,λk o g l h=>ca.same k o oM ((Z.block k (aS.1 l).1).trans l) h⟩,bb,a++[⟨(j:Nat)+1,a2,c2,U,a4,c4,di⟩],?_,cc.o,fq.kp bp.o hM.o bv.o dn.o ds.o,y5,aJ p5 bb.size⟩;rw[bG,F.o,bG];show _=(x.is.length+1,d,[])::(i.map (VH x)++[VH x j]);rw[<-cW];congr 1;unfold VH Pl.dat;simp only[eH,fZ];rw[ci.o,b8.o]
 case done=>
  rintro bl ys V hD rfl⟨a,n,K,B,u,p5⟩ a7;have F:=Xa n;have cf:=Xa K;have bq:=Xa B;have ar:=Xa a7;have fc:=Xa u;obtain⟨g5,g6,er,g4,f0,f1,_,f3,_⟩:=B.blk;have fe:=Xa f3;have gb:Bx<V.heap.size:=aI V _ f0;have ga:=λo=>(bP V o (Hk Bx 0) gb).trans f0;have gt:W.heap.size<V.heap.size:=oM;clear f1 f3 n K B a7 f0 u;obtain⟨i0,gh,gx,gz,g0⟩:=fX Nt;gi_wp2;clear ga
  gi_loopw [38] (λm wr=>∃k:Nat,k<=x.ps.length/\m=Hp k/\Hs (Below V.heap.size V wr)/\wr.cell? (Hk V.heap.size 0)=some Hq/\wr.frozen? (Hk V.heap.size 1)=false/\∃L,wr.cell? (Hk V.heap.size 1)=some L/\Hs (wr.ownsRow (V.heap.size+1) 56 1 L k (((x.ps.map Ph.dst).take k).map (Value.int .i64)))) λm _=>x.ps.length-(intOf m).toNat
  case atStart=>exact⟨0,aN _,rfl,Xa<|Xb (Below.refl _ _) _,by simp[go_sem],by simp[go_sem],Hq,by simp[go_sem],Xa<|dA _ _ _ _⟩
  obtain⟨k,hf,rfl,Y,c0,z1,L,c1,HO⟩:=hrel;by_cases ef:k<x.ps.length
  .obtain⟨b,o,rfl,hd,ap,cp,g,l,_⟩:=fe.o k ef;have dw:b<V.heap.size:=aI V _ g;have g1:=oB Y g dw;have g2:=oB Y l dw;have HN:Hs ((x.ps.map Ph.dst).take (k+1)=(x.ps.map Ph.dst).take k++[x.ps[k].dst]):=Xa (by rw[X7 _ _<|by simpa using ef];simp);have cr:V.heap.size<wr.heap.size:=aI wr _ c0;clear g l;generalize x.ps[k]=ph at*;generalize (x.ps.map Ph.dst).take k=dk at*
   gi_wp2_with (gi_at_builtin;refine wpListIn_append_own _ rfl _ _ 147 rfl (V.heap.size+1) 56 i0 (Hp 0) 1 8 underlying147 gh gx gz g0 rfl vZ _ _ _ rfl ((HO.alloc _).alloc _) (Hk (wr.heap.size+1) 0) 1 1 [Hp ph.dst] rfl rfl ?c1 ?c2 ?c3 ?c4 ?c5 ?_)
   case c1=>
    intro j L hj
    match j,hj with
    |0,hj=>simp at hj;subst hj;simp[Addr.add,go_sem]
   case c2=>intro L hu;simp at hu;subst hu;rfl
   case c3=>unfold maxLen;omega
   case c4=>omega
   case c5=>simp;omega
   intro v1 w1 cq cl _;obtain⟨av,cv,hv,_⟩:=Xk (xs:=dk++[ph.dst]) (by rw[Yl];exact cq);have HV:=Xa hv;have dc:=Xa cq;have ac:=Xa (Xy (Xb (Xb Y.o _) _) cl ((HO.alloc _).alloc _) oM (by have:=Y.size;simp;omega));have bz:=YJ cl ((HO.alloc _).alloc _) (b:=V.heap.size) oM (by simp;omega);have k0:=(Xc bz).trans (oB (Xb (Xb (Below.refl wr.heap.size wr) _) _) c0 cr);have k1:=(Xc bz).trans (oB (Xb (Xb (Below.refl wr.heap.size wr) _) _) c1 cr);have kz:w1.frozen? (Hk V.heap.size 1)=false:=by
    rw[bJ (a:=(Hk V.heap.size 1)) bz];exact((Xb (Xb (Below.refl wr.heap.size wr) _) _).frozen (p:=Hk V.heap.size 1) cr).trans z1
   clear cq cl bz c0 c1 z1;rw[hv];clear hv;gi_wp2;have ct:=HV.o;rw[aQ,bA,bO,aV]at ct;rw[<-ct];clear ct;refine⟨⟨k+1,oM,gM,Xa<|ac.setCell (aA _) _,?_,?_,v1,?_,Xa ?_⟩,by simp[intOf];omega⟩;·exact(cJ w1 (Hk V.heap.size 1) (Hk V.heap.size 0) v1 sP).trans k0
   .exact(eX _ _ _ _).trans kz
   .exact iL w1 _ v1<|by rw[k1];rfl
   rw[HN.o,Yl];exact dc.kept (row:=some V.heap.size) ⟨rfl,rfl,rfl,by simp[World.setCell],λk _ hk=>Below.heap_setCell _ _ _ _ λe=>hk<|by rw[e]⟩ (aZ λe=>by have:=(dc.lt _ e).1;omega)
  have gq:k=x.ps.length:=oM;subst gq;have co:=HO.o;rw[aW sP]at co;obtain⟨av,cv,rfl,ec⟩:=Xk co;have e7:=Xa ec;have af:M.heap.size<=V.heap.size:=oN N.o
  have gg:=(aS.1 ar.o).1;have cz:=Xa<|(Y.block bl gg).trans ar.o;have yr:=oB Y fc.o gt;have cg:Hs (a.length=x.is.length+1):=Xa (by
   have H:=fI List.length F.o;simp[Vf]at H;omega)
  clear co ec;obtain⟨fn,tmps,dj,bo,R,s⟩:=HY.o a ⟨0,none,0,[],av,cv,x.ps.map Ph.dst⟩ wr (XO HJ.o cf.o Y.o) ⟨cj.o _<|pU x,λm hi=>absurd hi sP,e7.mono oM<|aA _⟩ (oN cg.o);have I:(Instr.yield q #[Hp 0,.agg #[Hq,.slice av (x.ps.map Ph.dst).length cv]]).run prog wr=_:=R;rw[bK]at I c1;clear R;gi_wp2;refine s.mono ?_;rintro e V9 (⟨rfl,a0,cm,ba⟩|⟨rfl,a0,cm,ba⟩);rotate_left
  .have cd:=Xa a0;have aq:=Xa<|ba.same bl _ oM cz.o rfl;clear a0 cm ba I s;gi_wp2;refine YK aq.o ⟨.tuple #[],gV rfl _ _ _,⟨_,rfl⟩,.inr ⟨a++[⟨0,none,0,[],av,cv,x.ps.map Ph.dst⟩],?_,ce.putObj _ cd.o oM aq.o rfl⟩⟩;rw[bG,F.o,ax.o];exact mD _
  have cd:=Xa a0;have aq:=Xa<|ba.same bl _ oM cz.o rfl;clear a0 cm ba I s;gi_wp2;refine YK aq.o ⟨.tuple #[],gV rfl _ _ _,⟨_,rfl⟩,HE.o (a++[⟨0,none,0,[],av,cv,x.ps.map Ph.dst⟩]) _ ?_ (HJ.putObj _ cd.o oM aq.o rfl)⟩;rw[bG,F.o,ax.o];rfl
 rintro bl c i V hD⟨r,hq⟩ ⟨rfl,a,p0,n⟩ a7;have fb:=Xa p0;have HQ:=Xa hq;clear p0 hq;have F:=Xa n;have ar:=Xa a7;clear n a7;gi_wp2;refine YK ar.o ⟨.tuple #[],gV rfl _ _ _,⟨_,rfl⟩,.inr ⟨a,?_,ce.putObj _ F.o oM ar.o rfl⟩⟩;rw[fb.o,ax.o,HQ.o];obtain⟨g7,ht⟩:=xO x.is.length r;refine⟨g7.map (VH x)++[(0,[],x.ps.map Ph.dst)],?_⟩;unfold Hw;rw[cW,<-cK,<-bG,ht]
end
theorem gy.seqN{c:Type}{F:Fence}{i:c->Array Value}{g:c->World->Prop}{d:World->World->Prop}{S Sp:List c->Prop}(h:gy F n R m E (λ_=>i) (λ_=>g) d S Sp k False False w):ld F n R m E i g d S k w:=by
 intro A J W q t j r o;refine(h A (λ_=>J) (λ_ _=>False) W q t (λ_=>j) (λ_ _ _ _ h _ _=>h) (λf=>f.elim) (λf=>f.elim) (λz l B V _ b v u=>(r l B V b v u).mono λe D h=>bC h) λz V _ _ a=>j [] W V none o ⟨a.os,a.tape,a.output,a.size,λy s _=>a.block y s⟩ λG e=>by cases e).mono ?_;rintro e V⟨x,⟨z,C,_,p,b⟩|⟨l,_,f⟩⟩;·exact⟨x,C,p,b⟩
 exact f.elim
theorem yu(Bx L B:Nat)(a:Nat->Prop)(c:Nat×List Int×List Int->Prop)(x:Xe)(w:World)(b:Hs (Mr x L B Bx w.heap.size w))(d:Hs (∀k,L<=k->k<B->¬a k))(h:Hs (¬a Bx))(g:Hs (∀k,w.heap.size<=k->¬a k))(e:Hs (¬a 0))(f:Hs (¬a 1))(m:Hs (∀y∈x.is,1<=y.op/\y.op<=13))(n:1<=x.te.kind/\x.te.kind<=3)(j:x.is.length<=4000)(l:x.ps.length<=4000)(i:Hs (∀q∈Hw x,c q)) :
 ld Fence.wide 7 prog 114 #[Hn Bx] kr (ji w.heap.size c) (Zf w.heap.size a) (λo=>o.map Pl.dat=Hw x) (x.is.length+2) w :=
 gy.seqN (rg w.heap.size Bx L B a c x w (Xa ⟨b.op,b.ter,b.blk,b.lt,b.le,b.g1,b.g2,aA _⟩) d h g e f m n j l i)
def fp(W:Nat->Nat)(x:Nat):Nat->Nat:=λi=>if i=x/64 then W i&&&(18446744073709551615-2^(x%64))else W i
theorem rH(h:n<64):2^n<18446744073709551616:=aX (lB vZ h) vZ
theorem CW(W:Nat->Nat)(x y:Nat):Xh (fp W x) y=(decide (y≠x)&&Xh W y):=by
 unfold Xh fp;by_cases e:y/64=x/64
 .rw[aU e,jW,nf (rH<|dS _ vZ) (dS _ vZ),nE];by_cases h:x%64=y%64
  .have:y=x:=oM;simp[this]
  have:y≠x:=λq=>h (by rw[q]);simp[h,this]
 rw[aM e];have:y≠x:=λq=>e (by rw[q]);simp[this]
theorem Ee(h:XA f)(x:Nat):XA (fp f x):=λi=>by
 unfold fp;split;·exact iC jB<|h i
 exact h i
def G7(W:Nat->Nat)(a:List Nat):Nat->Nat:=a.foldl fp W
theorem yW{W:Nat->Nat}(h:n<s.length):G7 W (s.take<|n+1)=fp (G7 W<|s.take n) s[n]:=by
 unfold G7;rw[bN h,dT];rfl
theorem JX:∀(a:List Nat){W:Nat->Nat},XA W->XA (G7 W a)
 |[],_,h=>h
 |t::a,_,h=>JX a<|Ee h t
theorem Kt:∀(a:List Nat)(W:Nat->Nat)(y:Nat),Xh (G7 W a) y=(decide (y∉a)&&Xh W y)
 |[],_,_=>by simp[G7]
 |t::a,W,y=>by
  have h:=Kt a (fp W t) y;have e:G7 W (t::a)=G7 (fp W t) a:=rfl;rw[e,h,CW];by_cases b:y=t<;>by_cases c:y∈a<;>simp[b,c]
theorem xK(c:m<64)(b:n<18446744073709551616):bits .andNot .u64 (n:Int) (IntKind.u64.wrap<|2^m)=((n&&&(18446744073709551615-2^m):Nat):Int):=by
 have a:=rH c;have e:IntKind.u64.wrap (2^m)=((2^m:Nat):Int):=by
  rw[iV];have:((2^m:Nat):Int)=(2:Int)^m:=sP;rw[<-this];exact mB (kF _) (Int.ofNat_lt.2 a)
 rw[e,kM _ _ b a]
theorem JL(g K C n c:Nat)(W:Nat->Nat)(m:Option Addr)(a:List Nat)(L B:Nat)(w:World)(ha:Hs (Xf w L B m<|a.map Int.ofNat))(s:Hs (n=a.length))(hn:n<=4000)(J:Hs (∀t∈a,t<64*K))(hK:K<=1000)(E:Hs (XA W))(r:Hs (Bf w g K C W))(U:B<=w.heap.size)(Z:¬(L<=g/\g<B)) :
 Calls prog 83 #[.agg #[Hl g K C],.slice m n c] w λe v=>e=.returned (.tuple #[])/\w.grownBy v (some g)/\Bf v g K C (G7 W a):=by
 go_in
 go_wp2;have Y:=r.lt
 go_loopw [8] (λu wr=>∃q:Nat,q<=n/\u=Hp q/\Hs (w.grownBy wr<|some g)/\wr.cell? (Hk w.heap.size 0)=some (Hl g K C)/\Hs (Bf wr g K C<|G7 W (a.take q))) λu _=>n-(intOf u).toNat
 case atStart=>exact⟨0,aN _,rfl,Xa<|bW _ _ _,sP,Xa<|r.alloc _⟩
 obtain⟨q,hq,rfl,h,I,d⟩:=hrel;by_cases aa:q<n
 .have l:q<a.length:=oN s.o
  obtain⟨b,N,rfl,V,o⟩:=ha q (by simpa using l);have k:=(Xc<|h.block b oM λe=>by injection e with e;omega).trans o;rw[cM]at k;have ad:=J _<|aH l;have z:=Xa<|yW (W:=W) l;have A:=Xa<|JX (a.take q) E;generalize a[q]=t at*;have S:=oF t;have T:=oE t;have P:Cl wr b (N+q) (Hp t):=k;generalize G7 W (a.take q)=j at*;have p:t/64<K:=oM;have H:t%64<64:=dS _ vZ;have Q:=d.cell p;have R:=d.frozen;have y:=Xa<|xK H (A<|t/64);have x:Hs (∀i,(if i=t/64 then j (t/64)&&&(18446744073709551615-2^(t%64))else j i)=G7 W (a.take<|q+1) i):=Xa (λi=>by
   rw[z.o];unfold fp;by_cases e:i=t/64;·rw[aU e,aU e,e]
   rw[aM e,aM e])
  generalize X:t/64=f at*;generalize ab:t%64=O at*;go_wp2;go_region;go_wp2;rw[y.o];have M:wr.grownBy (wr.setCell (Hk g f) (.int .u64 ((j f&&&(18446744073709551615-2^O):Nat):Int))).drew (some g):=⟨rfl,rfl,rfl,by simp[World.setCell,World.drew],λaj _ G=>Below.heap_setCell _ _ _ _ λe=>G<|by rw[e]⟩;refine⟨⟨q+1,oM,gM,Xa (h.andThen M λaf F=>by cases F;exact aZ rfl),?_,Xa ?_⟩,by simp[intOf];omega⟩;·exact(bH wr (Hk g f) (Hk w.heap.size 0) _ (by show g≠w.heap.size;omega)).trans I
  refine Bf.drew ((d.set f _ p).congr λi _=>?_);rw[<-x.o i]
 have ac:q=n:=oM;have D:Hs (a.take q=a):=Xa<|aW (oN s.o);rw[D.o]at d;go_wp2
 go_end0
 exact⟨rfl,h,d⟩
theorem yG(g K C:Nat)(W:Nat->Nat)(w:World)(t:Hs (Bf w g K C W))(hK:K<=1000) :
 Calls prog 98 #[Hl g K C] w λe v=>∃b d,e=.returned (Hl b K d)/\w.heap.size<=b/\Below w.heap.size w v/\Bf v b K d W:=by
 let⟨J,E,G,H,I⟩:=fX Nn;have N:∀(w:World)(f:Option Addr)(n c l h:Nat),(binOp .eql 57 (.slice f n c) (.slice none l h)).run prog w=.ok (.bool f.isNone) w:=λw f n c l h=>Lib.run_eql_slice_nil w _ _ f n c l h underlying57;have M:=t.lt;have m:Hs ((w.alloc<|.cells #[] 154).ownsRow w.heap.size 154 1 (Hl w.heap.size 0 0) 0 []):=Xa<|eI (base:=w.heap.size) (e:=154) (size:=1) w #[] 0 sP sP rfl
 go_in
 go_wp2_with (at_builtin;refine fT _ rfl _ _ 57 rfl w.heap.size 154 J (.int .u64 0) 1 8 underlying57 E G H I rfl vZ _ _ _ rfl m (Hk g 0) K C ((List.range K).map λi=>Value.int .u64 (W i:Int)) rfl ?c0 ?c1 ?c2 ?c3 ?c4 ?c5 ?_)
 case c0=>simp
 case c1=>
  intro k L a;rw[dX]at a;by_cases e:k<K
  .rw[iQ e]at a;simp at a;subst a;have:=(t.alloc<|.cells #[] 154).cell e;have e2:((Hk g 0):Addr).add k=(Hk g k):=by rw[mK];simp
   rw[e2];exact this
  rw[dK<|by simp;omega]at a;cases a
 case c2=>
  intro L F;obtain⟨i,_,rfl⟩:=aY.1 F;rfl
 case c3=>unfold maxLen;omega
 case c4=>omega
 case c5=>simp
 intro v1 y r p q;have u:v1≠Hq:=by simpa using q
 have o:=Xy (Xb (Below.refl w.heap.size w) _) p m (aA _) sP;have s:y.ownsRow w.heap.size 154 1 v1 ((List.range K).map W).length (((List.range K).map W).map λx:Nat=>Value.int .u64 (x:Int)):=by
  have e:(((List.range K).map W).map λx:Nat=>Value.int .u64 (x:Int))=(List.range K).map λi=>Value.int .u64 (W i:Int):=sP;rw[e];simpa using r
 obtain⟨b,d,rfl,B,j⟩:=Bf.of_own s u;have z:=Xa o;have A:Hs (Bf y b K d W):=Xa (by
  have e:((List.range K).map W).length=K:=sP;rw[e]at j;exact j.congr λi D=>by simp[D])
 have e:((List.range K).map W).length=K:=sP;rw[e];go_wp2;go_ret;exact⟨_,_,rfl,B,z,A⟩
theorem Kk(g K C:Nat)(W:Nat->Nat)(w:World)(r:Hs (Bf w g K C W))(hK:K<=1000) :
 Calls prog 42 #[.agg #[Hl g K C]] w λe j=>∃b c,e=.returned (.agg #[Hl b K c])/\w.heap.size<=b/\Below w.heap.size w j/\Bf j b K c W:=by
 go_in
 go_wp2_with fail
 have n:Hs (Below w.heap.size w<|(w.alloc<|.cells #[Hl g K C] 59).alloc (.cells #[Hq] 59)):=Xa<|Xb (Xb (Below.refl _ _) _) _;have v:((w.alloc<|.cells #[Hl g K C] 59).alloc (.cells #[Hq] 59)).heap.size=w.heap.size+2:=sP;have s:=(r.alloc<|.cells #[Hl g K C] 59).alloc (.cells #[Hq] 59);have q:(λl:World=>l.cell? (Hk (w.heap.size+1) 0)=some Hq/\l.frozen? (Hk (w.heap.size+1) 0)=false) ((w.alloc<|.cells #[Hl g K C] 59).alloc (.cells #[Hq] 59)):=⟨(by simp[go_sem]),(by simp[go_sem])⟩;generalize (w.alloc _).alloc _=k at*;let⟨f,h⟩:=q;refine(yG g K C W k (Xa s) hK).mono ?_;rintro e t⟨d,m,rfl,u,a,i⟩;have f1:=(XU a oM).trans f;have f2:t.frozen? (Hk (w.heap.size+1) 0)=false:=by rw[bJ (w:=k) (a:=(Hk (w.heap.size+1) 0)) (a.block _<|by show w.heap.size+1<_;omega)];exact h
 have o:=Xa<|Xg n a;have p:=Xa i;go_wp2_with fail
 refine cC (v:=.agg #[Hl d K m]) (by simp[results,results42,go_sem,f1]) rfl ?_;exact⟨_,_,rfl,oM,o.setCell (by show w.heap.size<=w.heap.size+1;omega) _,p.setOther (by show d≠w.heap.size+1;omega) _⟩
theorem Ki(l:Int)(a:Option Addr)(n c:Nat)(w:World)(s:n<=1000) :
 Calls prog 32 #[.agg #[Hp l,.slice a n c]] w λi d=>∃f b,i=.returned (Hn f)/\w.heap.size<=f/\w.heap.size<=b/\Below w.heap.size w d/\YW d f b d.heap.size ((n+63)/64) a n c (λ_=>0) Hq []:=by
 have o:=Xa λW=>Tt n W oM
 go_in
 go_wp2_with fail
 refine Y7 (λd=>d.cell? (Hk w.heap.size 1)=some (.slice a n c)) λhHeld=>?_;refine Xn 0 ?_;refine Xn 1 ?_;refine Xn 2 ?_;refine Xn 3 ?_;refine Xn 4 ?_;refine Xs 5 λK hK=>?_;go_simp
 go_at_call 77
 refine(o _).mono ?_;rintro i h⟨b,rfl,k,e,g⟩;have t:w.heap.size+1<=h.heap.size:=by have:=e.size;simp at this;omega
 have j:Cl h w.heap.size 1 (.slice a n c):=(e.cell (p:=Hk w.heap.size 1) (by show w.heap.size<_;simp)).trans (by simp[go_sem]);have r:=g.lt;have m:=Xa<|Xg (w1:=(w.alloc<|.cells #[Hp l,.slice a n c] 25).drew) (Xb (Below.refl _ _) _).drew e;have p:=Xa g;have q:w.heap.size<=b:=by simp at k;omega
 refine hK _ _ j λhHeld=>?_;refine Xn 6 ?_;refine Xs 7 λK hK=>?_;go_simp;refine hK _ _ ((bP _ _ _<|by show w.heap.size<_;omega).trans j) λhHeld=>?_;refine Xn 8 ?_;refine Yq ?_;go_wp2;go_ret;refine⟨h.heap.size,b,rfl,oM,q,Xb m _,⟨sP,sP,sP,λu=>sP,p.alloc _,dA _ _ _ _,sP,by simp;omega,oM,aA _⟩⟩
theorem Tg(g k n e b o s r m:Nat)(v:Value)(f:Nat->Value)(W:World)(B:W.rowIs g 2 n f)(G:k<=n)(E:v.oneCell'=true)(q:m=Nat.min s (n-k))(C:∀j,j<m->W.cell? (Hk b<|o+j)=some v) :
 ∃d,Sem.run prog (Builtin.copy_ #[27,27] 3 #[Hm g k (n-k) e,Hm b o s r]) W=.ok (goInt m) d/\W.grownBy d (some g)/\d.rowIs g 2 n (λi=>if k<=i/\i<k+m then v else f i):=by
 let⟨c,l,x,y⟩:=B;have H:m<=n-k:=by rw[q];exact kQ _ _
 have h:=run_copy_row (P:=prog) W 27 27 3 2 g k (n-k) e (Hk b o) s r c 2 (List.replicate m v) underlying27 kR l (by rw[kN];exact q) (λj F a=>by
  rw[mI]at a;split at a
  .rename_i A;injection a with a;rw[<-a];rw[mK];exact C j A
  cases a) (by rw[kN];omega) λF D=>by rw[List.eq_of_mem_replicate D];exact E
 rw[kN]at h;refine⟨_,h,⟨rfl,rfl,rfl,sP,λj _ a=>setRow_other _ _ _ _ λw=>a<|by rw[w]⟩,⟨_,setRow_heap _ _ _ _ _ _ l,?_,λi z=>?_⟩⟩;·simp[x];omega
 have p:=y i z;simp only[List.getElem?_toArray];by_cases t:i<k
 .rw[aM oM,dL (by simp;omega),dL (by simp;omega),fH t];simpa using p
 by_cases u:i<k+m
 .rw[aU ⟨oM,u⟩,dL (by simp;omega),eV<|by simp;omega];simp[mI];omega
 rw[aM oM,eV (by simp;omega),jA];have:k+m+(i-(List.take k c.toList++List.replicate m v).length)=i:=by simp;omega
 rw[this];simpa using p
theorem zZ(a:n<=2000):bits .and .u64 (n:Int) 4294967295=(n:Int):=by
 have h:n&&&4294967295=n:=by
  have:=kO n 32;rw[show(2^32-1:Nat)=4294967295 from rfl]at this;rw[this];omega
 rw[show(4294967295:Int)=((4294967295:Nat):Int)from rfl,jH _ _ oM vZ,h]
theorem zG(n:Nat)(w:World)(a:n<=2000) :
 Calls prog 122 #[.int .u64 1,.int .u64 n] w λe b=>e=.returned (.tuple #[.int .u64 0,.int .u64 n])/\b=w:=by
 have d:bits .and .u64 1 4294967295=1:=vZ;have c:bits .and .u64 0 4294967295=0:=vZ;have f:=zZ a;have g:(n:Int)/4294967296=0:=oM;have i:IntKind.u64.wrap (n:Int)=n:=by simp[IntKind.wrap,IntKind.bits,IntKind.signed];omega
 have h:IntKind.u64.wrap 0=0:=vZ
 go_in
 go_wp2_with fail
 refine cC (v:=.tuple #[.int .u64 0,.int .u64 n]) (by simp[results,results122,go_sem]) rfl ⟨rfl,rfl⟩
theorem Dj(n:Nat)(w:World)(b:n<=2000) :
 Calls prog 89 #[.int .u64 1,.int .u64 n] w λe c=>e=.returned (.tuple #[.int .u64 0,.int .u64 n])/\c=w:=by
 have a:=Xa λW=>zG n W b
 go_in
 go_wp2_with fail
 refine(a _).mono ?_;rintro e d⟨rfl,rfl⟩;go_wp2_with fail
 refine cC (v:=.tuple #[.int .u64 0,.int .u64 n]) (by simp[results,results89,go_sem]) rfl ⟨rfl,rfl⟩
theorem rV(b n:Nat)(w:World)(S:n<=2000)(x:w.cell? (Hk b 0)=some (Hp (-1)))(M:b<w.heap.size) :
 Calls prog 36 #[Hl b 1 1,Hp n] w λe F=>∃h,e=.returned (Hl h n n)/\w.heap.size<=h/\Below w.heap.size w F/\F.rowIs h 2 n (λ_=>Hp (-1)):=by
 have I:=Xa λW=>Dj n W S;have Y:=fM (P:=prog) 27 2 (Hp 0) 8 underlying27 Nv rfl .i64 .i64 n oM oM;let⟨a,f⟩:∃a,a=Nat.min 1 (n-0):=⟨_,rfl⟩;have R:a<=1:=by rw[f];exact mQ _ _
 have A:a<=n:=by have:=kQ 1<|n-0;rw[f];omega
 have B:0<n->1<=a:=λt=>by rw[f];exact Nat.le_min.2 ⟨aA _,oM⟩
 let⟨K,l,y,C⟩:=Tg w.heap.size 0 n n b 0 1 1 a (Hp (-1)) _ (w.alloc<|.cells (madeCells #[Hp 0] n) 2) (dG w (Hp 0) n 2) (aN _) rfl f (λo O=>by
  have:o=0:=oM;subst this;exact(bP _ _ _ M).trans x)
 rw[Nat.sub_zero]at l;have s:=Xa C;have q:=Xa y;clear C y f
 go_in
 go_wp2_with fail
 refine(I _).mono ?_;rintro e T⟨rfl,E⟩;rw[E];clear E T;go_wp2_with fail
 generalize decide ((n:Int)<0)=U;generalize decide (9223372036854775807<(n:Int))=V;have r:Hs (K.rowIs w.heap.size 2 n λi=>Hp<|if i<a then -1 else 0):=Xa (s.congr (λi _=>by by_cases t:i<a<;>simp[t]));have p:=Xa ((Xb (Below.refl _ w) _).grown q sP λk e=>by cases e;exact aA _);clear s q l x
 go_loopw [8] (λu wr=>∃k:Nat,(0<n->1<=k)/\k<=n/\u=Hp k/\Hs (Below w.heap.size w wr)/\Hs (wr.rowIs w.heap.size 2 n λi=>Hp<|if i<k then -1 else 0)) λu _=>n-(intOf u).toNat
 case atStart=>exact⟨a,B,A,rfl,p,r⟩
 clear p r;obtain⟨k,P,Q,rfl,g,c⟩:=hrel;by_cases X:k<n
 .let⟨m,d⟩:∃m,m=Nat.min k (n-k):=⟨_,rfl⟩;have R:m<=k:=by rw[d];exact mQ _ _
  have A:m<=n-k:=by rw[d];exact kQ _ _
  have B:0<m:=by rw[d];exact Nat.lt_min.2 ⟨P oM,oM⟩
  let⟨L,l,z,D⟩:=Tg w.heap.size k n (n-k) w.heap.size 0 k n m (Hp (-1)) (λi=>Hp<|if i<k then -1 else 0) wr.drew c Q rfl d (λo O=>by
   rw[aV];have:=c.cell (i:=o) oM;rw[aU oM]at this;exact this)
  have J:Hs (L.rowIs w.heap.size 2 n λi=>Hp<|if i<k+m then -1 else 0):=Xa (D.congr (λi _=>by
   by_cases j:i<k
   .simp[j];omega
   by_cases v:i<k+m;·simp[j,v]
   simp[j,v]))
  have G:=Xa (g.drew.grown z g.size λk e=>by cases e;exact aA _);clear g c D z d;go_wp2;go_region;go_wp2;exact⟨⟨k+m,λ_=>oM,oM,gM,G,J⟩,by simp[intOf];omega⟩
 have:k=n:=oM;subst this;have H:Hs (wr.rowIs w.heap.size 2 k λ_=>Hp (-1)):=Xa (c.congr λi N=>by simp[N]);clear c;go_wp2;go_ret;exact⟨_,rfl,aA _,g,H⟩
theorem yt(b n:Nat)(w:World)(f:n<=1000)(_h0:0<n)(d:w.cell? (Hk b 0)=some (Hp (-1)))(c:b<w.heap.size) :
 Calls prog 36 #[Hl b 1 1,Hp n] w λe a=>∃g,e=.returned (Hl g n n)/\w.heap.size<=g/\Below w.heap.size w a/\a.rowIs g 2 n (λ_=>Hp (-1)) :=
 rV b n w oM d c
section
attribute [local go_sem] Oper.semAt_some
def mks(a:List Nat):List Deferred:=a.map λD=>{ target:=.collected D,args:=#[] }
structure ZJ(W:World)(B:Nat)(ds:List Nat):Prop where
 nd:ds.Nodup
 ge:∀D∈ds,B<=D
 obj:∀D∈ds,W.heap[D]?=some (.deferred (some []))
theorem U4{F:Fence}{n:Nat}{P:Program}{fn:Func}{tmps:Array Value}{R:Ending->World->Prop}{B:Nat}:∀(b:List Nat)(W:World),ZJ W B b->B<=W.heap.size->(∀a,Below B W a->∃v,(results fn tmps).run P a=.ok v a/\R (.returned v) a)->LeavesInM F n P fn tmps R (mks b) .returning W
 |[],W,_,_,h=>h W<|Below.refl _ _
 |D::b,W,hm,hB,h=>by
  refine⟨sP,bC ⟨D,_,rfl,run_takeDeferred<|hm.obj D cI,?_⟩⟩;have f:=hm.ge D cI;have d:Below B W (W.putObj D<|.deferred none):=(Below.refl B W).grown (grownBy_putObj' W D _) hB (λk e=>by cases e;exact f);refine U4 b _ ⟨(fL.1 hm.nd).2,λk c=>hm.ge k<|cN _ c,λk c=>?_⟩ (aJ hB d.size) λa k=>h a<|d.trans k;exact(World.putObj_heap_other λe=>(fL.1 hm.nd).1 (by rw[<-e];exact c)).trans (hm.obj k<|cN _ c)
theorem rF{wr:World}(h:ZJ wr n s)(f:wr.heap.size<=m)(hK:w.heap[m]?=some (.deferred (some [])))(d:∀a,a<wr.heap.size->a≠k->w.heap[a]?=wr.heap[a]?)(e:k<n/\n<=wr.heap.size):ZJ w n (m::s):=by
 have c:=λa b=>(aS.1<|h.obj a b).1;refine⟨fL.2 ⟨λa=>by have:=c m a;omega,h.nd⟩,λa b=>?_,λa b=>?_⟩
 .rcases cH.1 b with rfl|b;·omega
  exact h.ge a b
 rcases cH.1 b with rfl|b;·exact hK
 exact(d a (c a b) (oN<|h.ge a b)).trans (h.obj a b)
theorem xI(C:Option Addr)(n H I L g c0:Nat)(ab:List (List Nat))(a:List Nat)(L1 B1 L2 B2:Nat)(w:World)(cg:Hs (XR w L2 B2 C<|ab.map Xi))(G:Hs (n=ab.length))(a4:Hs (Xf w L1 B1 (some ⟨I,L,none⟩) (Xi a)))(h0:Hs (g=a.length))(hn:n<=1000)(X:0<n)(dn:g<=1000)(du:0<g)(ek:g<=c0)(bw:B1<=w.heap.size)(dd:B2<=w.heap.size)(J:Hs (∀b∈a,b<n))(cf:Hs (∀R∈ab,R.length<=2000/\∀ea∈R,ea<n)) :
 Calls prog 94 #[.slice C n H,Hm I L g c0] w λe w'=>∃az j,e=.returned (Hl az n n)/\w.heap.size<=az/\Below w.heap.size w w'/\w'.rowIs az 2 n (λz=>Hp<|VB j a g z)/\∀b,b<n->∀x,x<n->(Xh (j b) x=true↔Sp (IG n) (If n) (·∈a) (λb=>ab.getD b []) b x):=by
 have a8:=Xa λW (hb:Below w.heap.size w W)=>xf C n H I L g c0 ab a L1 B1 L2 B2 W (Xa<|cg.keepS λk _ P=>(hb.mono dd).block k P) G (Xa<|a4.keep (hb.mono bw)) h0 hn X dn du (oN hb.size) (oN hb.size) J cf;have ee:(n+63)/64<=16:=oM;have ef:n<=64*((n+63)/64):=oM;generalize (n+63)/64=ay at*;refine(bM (n:=4)).1 ?_;refine callsIn_of_wp_marks func94 rfl trivial ?_ rfl;simp only[ntmps94,xY,Nat.reduceAdd,Nat.reduceSub];gi_wp2;refine⟨trivial,(bM.2<|a8 w (Below.refl _ _)).mono ?_⟩;rintro e p⟨N,gs,j,rfl,a1,ao,ch,cb⟩;have a9:=Xa a1;have bn:=Xa ao;have db:=Xa ch;have c6:=Xa cb;have ed:=ao.row.lt;have cz:=Xa λi hi=>(ao.set i hi).lt;have ey:=a1.size;clear a1 ao ch cb a8;gi_wp2;refine⟨trivial,(bM.2<|yt (p.heap.size+1) n ((p.alloc<|.cells #[Hl N n n] 211).alloc (.cells #[Hp (-1)] 2)) hn X (by simp[go_sem]) sP).mono ?_⟩;rintro e m⟨d,rfl,b7,U,a5⟩;have ba:=Xa<|Xg (Xb (Xb a9 _) _) U;have ez:p.heap.size+2<=m.heap.size:=by have:=U.size;simp at this;omega
 have es:p.heap.size+2<=d:=by simp at b7;omega
 have et:=a5.lt;have bo:=Xa<|(bn.keep<|Xb (Xb (Below.refl _ _) _) _).keep U;have bq:Cl m p.heap.size 0 (Hl N n n):=(U.cell (p:=Hk p.heap.size 0) (by show p.heap.size<_;simp;omega)).trans (by simp[go_sem]);have bi:=Xa a5;clear U a5 b7 a9 bn;gi_wp2;have aq:Hs (Below w.heap.size w<|m.alloc (.cells #[Hl d n n] 27)):=Xa<|Xb ba _;have bl:Hs ((m.alloc<|.cells #[Hl d n n] 27).rowIs d 2 n λz=>Hp<|VB j a 0 z):=Xa<|bi.alloc _;have c9:=Xa<|bo.keep (Xb (Below.refl _ _) (.cells #[Hl d n n] 27));have bt:(m.alloc<|.cells #[Hl d n n] 27).cell? (Hk p.heap.size 0)=some (Hl N n n):=(bP _ _ _<|by show p.heap.size<_;omega).trans bq;have bz:(m.alloc<|.cells #[Hl d n n] 27).cell? (Hk m.heap.size 0)=some (Hl d n n):=by simp[go_sem]
 have d4:m.heap.size<(m.alloc<|.cells #[Hl d n n] 27).heap.size:=sP;clear ba bi bo bq;generalize m.alloc _=M at*;have cv:=Xa bt;have bc:=Xa bz;have bf:=Xa<|a4.keep (aq.mono bw);have cj:=aq.size;clear bt bz a4 cg G cf;refine nH (λD wr=>∃(i:Nat)(O:List Nat)(u7 u8 cl cm co cp cq cr cs ct a6:Value),i<=g/\D=⟨#[.slice C n H,Hm I L g c0,undef,undef,Hq,Hn p.heap.size,Hn m.heap.size,u7,u8,undef,undef,.slice C n H,Hm I L g c0,Hl N n n,Hl (p.heap.size+1) 1 1,.slice C n H,Hp n,Hl d n n,Hm I L g c0,Hp g,Hp i,cl,cm,co,cp,cq,cr,cs,ct,undef,undef,undef,undef,undef,undef,undef,undef,undef,undef,undef,undef,undef,a6,undef],mks O⟩/\Hs (M.grownBy wr<|some d)/\Hs (wr.rowIs d 2 n λz=>Hp<|VB j a i z)/\Hs (ZJ wr M.heap.size O)) (λD _=>g-(intOf<|D.tmps.getD 20 undef).toNat) ?_ ?_;·exact⟨0,[],_,_,_,_,_,_,_,_,_,_,_,aN _,rfl,Xa<|lJ _ _,bl,Xa ⟨iU,λ_ B=>(by cases B),λ_ B=>(by cases B)⟩⟩
 rintro D wr⟨i,O,u7,u8,cl,cm,co,cp,cq,cr,cs,ct,a6,hi,rfl,A,HR,HM⟩;clear bl;by_cases eu:i<g
 .have aj:i<a.length:=oN h0.o;let⟨o,v,er,ej,bp⟩:=bf i (by simpa [Xi]using aj);have a2:=J _<|aH aj;have dw:(Xi a)[i]'(by simpa [Xi]using aj)=((a[i]:Nat):Int):=by simp[Xi]
  rw[dw]at bp;obtain⟨rfl,rfl⟩:o=I/\v=L:=by injection er with er;injection er with e1 e2;exact⟨e1.symm,e2.symm⟩
  have df:o<M.heap.size:=oM;have F:o≠d:=oM;have em:=(bZ<|A.block o df λe=>F<|by injection e).trans bp;have ep:i<=c0:=oM;have ca:a.getD i 0=a[i]:=by simp[aj]
  have ac:=Xa ca;have d3:=A.size;have b8:d<M.heap.size/\M.heap.size<=wr.heap.size:=⟨oM,d3⟩;have bd:=Xa b8;clear ca b8;gi_wp2;refine⟨trivial,(xq Fence.wide 3 trivial rfl _ i c0 _).mono ?_⟩;rintro e q⟨rfl,Y⟩;rw[aO];have ci:q.heap.size=wr.heap.size+2:=by rw[Y];simp
  have b6:q.cell? (Hk wr.heap.size 0)=some (Hp ((a[i]:Nat):Int)):=by rw[Y];simp[go_sem]
  have d2:q.cell? (Hk (wr.heap.size+1) 0)=some (Hm o v i c0):=by
   rw[Y];simp[go_sem]
  have l:Below wr.heap.size wr q:=by rw[Y];exact Xb (Xb (Below.refl _ _) _) _
  clear Y;have a3:∀k,k<M.heap.size->k≠d->q.heap[k]?=M.heap[k]?:=λk f F=>(l.block k oM).trans (A.block k f λe=>F<|by injection e)
  have d1:∀u,u<i->q.cell? (Hk o<|v+u)=some (Hp ((a[u]?.getD 0:Nat):Int)):=λu hj=>by
   let⟨b5,o5,e5,h5,e6⟩:=bf u (by simp[Xi];omega);injection e5 with e5;injection e5 with e1 e2;subst e1;subst e2;have dk:u<a.length:=oM;have d0:(Xi a)[u]'(by simp[Xi];omega)=((a[u]:Nat):Int):=by simp[Xi]
   rw[d0]at e6;rw[aC dk,gR];exact(bZ<|a3 o oM oM).trans e6
  have cc:=HR.of_block<|l.block d oM;have bm:=Xa cc;have da:Hs (Ye q N n ay gs j):=Xa ((c9.grown A oM λu hj e=>by have:=cz u hj;omega).keep l);have bv:=(bZ<|a3 p.heap.size oM oM).trans cv;have b1:=(bZ<|a3 m.heap.size oM oM).trans bc;have cx:=Xa b6;have cw:=Xa bv;have c7:=Xa b1;have eb:=Xa ci;have e0:wr.heap.size+2<=q.heap.size:=oM;clear ci b6 bv b1 cc;gi_wp2
  refine wpIn_rangeFunc_ownF (F:=Fence.wide) (n:=4) rfl vZ (gf:=136) (lb:=#[Hn<|wr.heap.size+1]) rfl trivial (enters_of func136 kR rfl) (wh Fence.wide 3 trivial rfl vZ (wr.heap.size+1) o v i c0 a n J X oM q oM oM d2 d1) belowK_t (belowK_b<|aA _) (Below.refl _ _) (λ_=>rfl)
   (λS W=>Below q.heap.size q W/\∀y∈S,Xh (j a[i]) y.1.2=true)
   (λc S W=>c=.exit 2/\∃aa x,S=aa++[x]/\(∀y∈aa,Xh (j a[i]) y.1.2=true)/\Xh (j a[i]) x.1.2=false/\q.grownBy W (some d)/\W.rowIs d 2 n λz=>Hp<|if z=a[i]then (x.1.2:Int)else VB j a i z)
   (λd5 W W' row G s K=>⟨G.1.grown s G.1.size λk e=>(K k e).1,G.2⟩)
   (λc d5 W W' row G s K=>by
    let⟨hc,aa,x,e,h1,P,Q,ce⟩:=G;refine⟨hc,aa,x,e,h1,P,⟨s.os.trans Q.os,s.tape.trans Q.tape,s.output.trans Q.output,aJ Q.size s.size,λk f F=>(s.block k (aX f Q.size) λe=>by have:=(K k e.symm).1;omega).trans (Q.block k f F)⟩,ce.of_block (s.block d ce.lt λe=>by have:=(K d e.symm).1;omega)⟩)
   ⟨Below.refl _ _,λ_ B=>by cases B⟩
   (λx=>⟨#[.slice C n H,Hm o v g c0,undef,undef,Hq,Hn p.heap.size,Hn m.heap.size,Hp i,Hn wr.heap.size,undef,Hp (x.1.2:Int),.slice C n H,Hm o v g c0,Hl N n n,Hl (p.heap.size+1) 1 1,.slice C n H,Hp n,Hl d n n,Hm o v g c0,Hp g,Hp i,.bool true,Hp i,Ho o<|v+i,Hp ((a[i]:Nat):Int),Hm o v g c0,Hp i,Hm o v i c0,.func (.func 136) #[] #[Hn<|wr.heap.size+1],Hp (x.1.1:Int),Hp (x.1.2:Int),undef,undef,undef,undef,undef,undef,undef,undef,undef,undef,undef,a6,undef],[]⟩) ?assign ?body ?done ?stop
  case assign=>
   intro R x W ay hK;gi_wp2;exact hK
  case body=>
   rintro R S x W⟨t,T⟩ _;have bx:=(XU t oM).trans cx;have dc:=(XU t oM).trans cw;have b3:=(XU t oM).trans c7;have a0:=da.keep t;have di:=a0.row.cell a2;have ev:=x.2;have a7:=Xa T;have h:=Xa t;have cd:=bm.of_block<|t.block d oM;have af:=Xa cd;have ad:=Xa<|Jm (gs a[i]) ay x.1.2 (j a[i]) W (Xa<|db.o a[i]) (Xa (a0.set a[i] a2).to_row) oM oM;clear T t cd a0;cases hh:Xh (j a[i]) x.1.2 with
   |true=>
    have HH:=Xa hh;rw[hh]at ad;clear hh;gi_wp2;refine⟨trivial,(CallsIn.inRound R<|bM.2 ad).mono ?_⟩;rintro e W5⟨rfl,E⟩;have r:=Xa E;clear E;gi_wp2
    exact⟨⟨r.size,λk ck f _=>(r.block k (aS.1 f).1).trans f⟩,r.mono h.size,Xg h r,λy Z=>by
     rcases bU.1 Z with B|B;·exact a7 y B
     have:y=x:=by simpa using B
     rw[this];exact HH⟩
   |false=>
    have HH:=Xa hh;rw[hh]at ad;clear hh;gi_wp2;refine⟨trivial,(CallsIn.inRound R<|bM.2 ad).mono ?_⟩;rintro e W5⟨rfl,E⟩;have ec:=oB E bx (by show wr.heap.size<_;have:=h.size;omega);have eg:=oB E b3 (by show m.heap.size<_;have:=h.size;omega);have al:=af.of_block<|E.block d (oN h.size);have el:=al.cell a2;have eq:=al.frozen a[i];have c8:=Xa al;have r:=Xa E;clear E al bx b3 dc di af;gi_wp2;refine⟨⟨by rw[Xd];exact r.size,λk ck f J=>?_⟩,rfl,S,x,rfl,a7,HH,?_,?_⟩
    .have dl:=(aS.1 f).1;have h5:=(r.block k dl).trans f;exact(KeepsOthers.setCell W5 _ _).same k ck h5 J
    .exact((⟨(Xg h r).os,(Xg h r).tape,(Xg h r).output,(Xg h r).size,λk f _=>(Xg h r).block k f⟩:q.grownBy W5 (some d))).trans ⟨rfl,rfl,rfl,by simp[World.setCell],λk _ f=>Below.heap_setCell _ _ _ _ λe=>f<|by rw[e]⟩
    exact TS (C:=Value.int .i64) c8 a[i] (x.1.2:Int)
  case done=>
   rintro ap ys W hD rfl⟨t,T⟩ hK;have V:=Ae J X (len:=i) oM (p:=λD=>!Xh (j<|a.getD i 0) D) (λy Z=>by rw[ac.o,T y Z];rfl);have ar:=Xa V;have h:=Xa t;have ax:=Xa hK;clear V T t hK;gi_wp2;refine⟨⟨i+1,ap::O,_,_,_,_,_,_,_,_,_,_,_,oM,rfl,Xa ?_,Xa ?_,Xa ?_⟩,by simp[intOf];omega⟩;·exact(A.trans ⟨l.os,l.tape,l.output,l.size,λk f _=>l.block k f⟩).trans ⟨h.os,h.tape,h.output,h.size,λk f _=>h.block k f⟩
   .exact(bm.of_block<|h.block d oM).congr λz _=>by rw[rh ar.o]
   exact rF HM oM ax (λk f F=>(h.block k oM).trans (l.block k f)) bd
  rintro ap c S W hD⟨k,f,rfl⟩ ⟨rfl,aa,x,e,h1,P,s,K⟩ hK;have V:=AB J X (len:=i) oM (dU f) (p:=λD=>!Xh (j<|a.getD i 0) D) e.symm (λy Z=>by rw[ac.o,h1 y Z];rfl) (by rw[ac.o,P];rfl);have ar:=Xa V;have bb:=Xa s;have af:=Xa K;have ax:=Xa hK;clear V h1 P s K hK e;gi_wp2;refine⟨⟨i+1,ap::O,_,_,_,_,_,_,_,_,_,_,_,oM,rfl,Xa ?_,Xa ?_,Xa ?_⟩,by simp[intOf];omega⟩;·exact(A.trans ⟨l.os,l.tape,l.output,l.size,λk f _=>l.block k f⟩).trans bb
  .exact af.congr λz _=>by rw[rM ar.o,ac.o]
  exact rF HM oM ax (λk f F=>(bb.block k oM λe=>F<|by injection e).trans (l.block k f)) bd
 have dj:i=g:=oM;subst dj;have ei:=(bZ<|A.block m.heap.size d4 λe=>by injection e with e;omega).trans bc;gi_wp2;refine U4 O wr HM A.size λW' b4=>?_;refine⟨Hl d n n,by simp[results,results94,go_sem],d,j,rfl,oM,?_,?_,c6⟩;·exact(aq.grown A cj λk e=>by cases e;omega).trans (b4.mono cj)
 exact HR.of_block<|b4.block d oM
end
structure MT(w Y:World)(V:Nat)(a:Option Addr)(n c Kw:Nat)(xs:List Xe)(Gi LB Go:Nat)(go:Nat->Nat)(WO:Nat->Nat->Nat):Prop where
 low:Below w.heap.size w Y
 f0:Y.cell? ⟨w.heap.size,0,none⟩=some (.int .i64 (V:Int))
 f1:Y.cell? ⟨w.heap.size,1,none⟩=some (.slice a n c)
 r0:Y.cell? ⟨w.heap.size+1,0,none⟩=some (.slice none 0 0)
 r1:Y.cell? ⟨w.heap.size+1,1,none⟩=some (.slice none 0 0)
 rz:∀q,Y.frozen? ⟨w.heap.size+1,q,none⟩=false
 gi:Y.rowIs Gi 59 n λ_=>.slice none 0 0
 l0:Y.cell? ⟨LB,0,none⟩=some (.slice (some ⟨Gi,0,none⟩) n n)
 l1:Y.cell? ⟨LB,1,none⟩=some (.slice (some ⟨Go,0,none⟩) n n)
 o:XK Y Go n Kw go (λ_=>Kw) WO
 wd:XQ WO
 has:∀b,b<n->∀v,Xh (WO b) v=true↔(b,v)∈IE xs n
 b1:w.heap.size+2<=Gi
 b2:w.heap.size+2<=LB
 b3:w.heap.size+2<=Go
 b4:∀i,i<n->w.heap.size+2<=go i
 d1:Gi≠LB
 d2:Gi≠Go
 d3:LB≠Go
 d4:∀i,i<n->go i≠Gi/\go i≠LB
theorem qC(F:Fence)(n:Nat)(b:F.fn 82)(c:F.round=none)(a v1 v2 v3 v4 v5:Value)(w:World) :
 CallsIn F n prog 82 #[.agg #[a,v1,v2,v3,v4,v5]] w λe d=>e=.returned (.func (.func 114) #[] #[.pointer (some ⟨w.heap.size,0,none⟩)])/\d=w.alloc (.cells #[a,v1,v2,v3,v4,v5] 46):=by
 refine iD func82 rfl b ?_ c;simp only[ntmps82,xY,Nat.reduceAdd,Nat.reduceSub];gi_wp2;go_ret;exact⟨rfl,rfl⟩
theorem XK.setCell(h:XK w n m k f F M)(p:Addr)(v:Value)(b:p.block≠n)(c:∀i,i<m->p.block≠f i):XK (w.setCell p v) n m k f F M :=
 ⟨h.row.setOther (λe=>b e.symm) v,λi a=>(h.set i a).setOther (λe=>c i a e.symm) v,h.inj,h.o⟩
theorem VR{go:Nat->Nat}(H:Below w.heap.size w v)(L:v.heap.size=w.heap.size+2)(j:Below v.heap.size v u)
 (E:v.cell? ⟨w.heap.size,0,none⟩=some (.int .i64 (n:Int))) (f1:v.cell? ⟨w.heap.size,1,none⟩=some (.slice p m c)) (I:v.cell? ⟨w.heap.size+1,0,none⟩=some (.slice none 0 0)) (J:v.cell? ⟨w.heap.size+1,1,none⟩=some (.slice none 0 0)) (rz:∀q,v.frozen? ⟨w.heap.size+1,q,none⟩=false)
 (t:u.rowIs B 59 m λ_=>.slice none 0 0) (y:u.rowIs g 89 2 λ_=>.slice none 0 0) (z:XK u i m k go (λ_=>k) M) (K:XQ M) (G:∀b,b<m->∀s,Xh (M b) s=true↔(b,s)∈IE x m)
 (A:w.heap.size+2<=B) (b2:w.heap.size+2<=g) (C:w.heap.size+2<=i) (D:∀d,d<m->w.heap.size+2<=go d) (a:i≠g/\B≠g/\B≠i/\∀d,d<m->go d≠B/\go d≠g) :
 MT w ((u.setCell ⟨g,0,none⟩ (.slice (some ⟨B,0,none⟩) m m)).setCell ⟨g,1,none⟩ (.slice (some ⟨i,0,none⟩) m m)) n p m c k x B g i go M:=by
 have r:=(y.set 0<|Hl B m m).set 1 (Hl i m m);have h:∀f:Addr,f.block<v.heap.size->f.block≠g->((u.setCell (Hk g 0) (Hl B m m)).setCell (Hk g 1) (Hl i m m)).cell? f=v.cell? f:=λf F o=>
  (bH _ _ _ _ λe=>o e.symm).trans ((bH _ _ _ _ λe=>o e.symm).trans (j.cell F))
 refine⟨((Xg H j).setCell (by show w.heap.size<=g;omega) _).setCell (by show w.heap.size<=g;omega) _,(h _ (by show w.heap.size<_;omega) (by show w.heap.size≠g;omega)).trans E,(h _ (by show w.heap.size<_;omega) (by show w.heap.size≠g;omega)).trans f1,(h _ (by show w.heap.size+1<_;omega) (by show w.heap.size+1≠g;omega)).trans I,(h _ (by show w.heap.size+1<_;omega) (by show w.heap.size+1≠g;omega)).trans J,λq=>?_,(t.setOther a.2.1 _).setOther a.2.1 _,(r.cell (i:=0) vZ).trans sP,(r.cell (i:=1) vZ).trans sP,(z.setCell _ _ (λe=>a.1 e.symm) λd l e=>(a.2.2.2 d l).2 e.symm).setCell _ _ (λe=>a.1 e.symm) λd l e=>(a.2.2.2 d l).2 e.symm,K,G,A,b2,C,D,a.2.1,a.2.2.1,λe=>a.1 e.symm,a.2.2.2⟩;exact(eX _ _ _ _).trans ((eX _ _ _ _).trans ((j.frozen (p:=Hk (w.heap.size+1) q) (by show w.heap.size+1<_;omega)).trans (rz q)))
structure VD where
 w:World
 V:Nat
 n:Nat
 c:Nat
 Kw:Nat
 K2:Nat
 a:Option Addr
 xs:List Xe
 Gi:Nat
 LB:Nat
 Go:Nat
 DB:Nat
 Gd:Nat
 Gn:Nat
 bS:Nat
 gS:Nat
 sA:Nat
 s3:Nat
 M:Nat
 go:Nat->Nat
 gd:Nat->Nat
 WO:Nat->Nat->Nat
structure Lu where
 gi:Nat->Nat
 ci:Nat->Nat
 WI:Nat->Nat->Nat
 WD:Nat->Nat->Nat
 nx:Nat->Value
 Ws:Nat->Nat
 vS:Value
 Lf:List Nat
structure MG(p:VD):Prop where
 a1:p.w.heap.size+2<=p.Gi/\p.Gi<p.sA
 a2:p.w.heap.size+2<=p.LB/\p.LB<p.sA
 a3:p.w.heap.size+2<=p.Go/\p.Go<p.sA
 a4:∀i,i<p.n->p.w.heap.size+2<=p.go i/\p.go i<p.sA
 d1:p.Gi≠p.LB
 d2:p.Gi≠p.Go
 d3:p.LB≠p.Go
 d4:∀i,i<p.n->p.go i≠p.Gi/\p.go i≠p.LB
 a5:p.sA<=p.Gd/\p.Gd<p.s3
 a6:∀i,i<p.n->p.sA<=p.gd i/\p.gd i<p.s3
 a7:p.DB=p.s3
 a8:p.Gn=p.s3+1
 a9:p.s3+2<=p.bS/\p.bS<p.M
 a10:p.s3+2<=p.gS/\p.gS<p.M
 a11:p.bS≠p.gS
def Ih(a:List Xe)(i:Nat):List Int:=(a[i]?).elim [] λx=>x.te.tg
theorem VS(h:n<x.length):Ih x n=x[n].te.tg:=by simp[Ih,h]
structure LN(p:VD)(W:World)(k:Nat)(d:Lu):Prop where
 low:Below p.w.heap.size p.w W
 sz:p.M<=W.heap.size
 f0:W.cell? ⟨p.w.heap.size,0,none⟩=some (.int .i64 (p.V:Int))
 f1:W.cell? ⟨p.w.heap.size,1,none⟩=some (.slice p.a p.n p.c)
 r0:W.cell? ⟨p.w.heap.size+1,0,none⟩=some (.slice none 0 0)
 r1:W.cell? ⟨p.w.heap.size+1,1,none⟩=some (.slice none 0 0)
 rz:∀q,W.frozen? ⟨p.w.heap.size+1,q,none⟩=false
 l0:W.cell? ⟨p.LB,0,none⟩=some (.slice (some ⟨p.Gi,0,none⟩) p.n p.n)
 l1:W.cell? ⟨p.LB,1,none⟩=some (.slice (some ⟨p.Go,0,none⟩) p.n p.n)
 d0:W.cell? ⟨p.DB,0,none⟩=some (.slice (some ⟨p.Gd,0,none⟩) p.n p.n)
 o:XK W p.Go p.n p.Kw p.go (λ_=>p.Kw) p.WO
 inr:W.rowIs p.Gi 59 p.n λi=>if i<k then .slice (some ⟨d.gi i,0,none⟩) p.Kw (d.ci i)else .slice none 0 0
 ins:∀i,i<k->Bf W (d.gi i) p.Kw (d.ci i) (d.WI i)
 inj:∀i j,i<k->j<k->d.gi i=d.gi j->i=j
 igM:∀i,i<k->p.M<=d.gi i
 defs:XK W p.Gd p.n p.Kw p.gd (λ_=>p.Kw) d.WD
 nxr:W.rowIs p.Gn 27 p.n λi=>if i<k then d.nx i else .slice none 0 0
 nxs:∀i,i<k->∃a' c',d.nx i=.slice a' (Ih p.xs i).length c'/\Yv W (λb=>p.M<=b/\(∀j,j<k->b≠d.gi j)/\some b≠d.vS.ownBlock) a' (Ih p.xs i)
 sea:YW W p.bS p.gS p.M p.K2 p.a p.n p.c d.Ws d.vS d.Lf
 giv:∀i,i<k->some (d.gi i)≠d.vS.ownBlock
def eh{a:Type}(f:Nat->a)(k:Nat)(v:a):Nat->a:=λi=>if i=k then v else f i
theorem Zt{a:Type}(f:Nat->a)(k:Nat)(v:a):eh f k v k=v:=by simp[eh]
theorem Zb{a:Type}(f:Nat->a)(k:Nat)(v:a)(h:n≠k):eh f k v n=f n:=by simp[eh,h]
theorem LN.next{p:VD}{d:Lu}(h:LN p w n d)(s:MG p)(A:n<p.n){gB CB:Nat}{I' D':Nat->Nat}{nk v':Value}{Ws':Nat->Nat}{Lf':List Nat}
 (Q:v.os=w.os) (S:v.tape=w.tape) (P:v.output=w.output) (F:w.heap.size<=v.heap.size)
 (D:∀q,q<w.heap.size->q≠p.Gi->q≠p.gd n->q≠p.Gn->q≠p.bS->q≠p.gS->some q≠d.vS.ownBlock->v.heap[q]?=w.heap[q]?)
 (ab:w.heap.size<=gB) (N:Bf v gB p.Kw CB I') (L:v.rowIs p.Gi 59 p.n λi=>if i=n then Hl gB p.Kw CB else if i<n then Hl (d.gi i) p.Kw (d.ci i)else Hq)
 (K:Bf v (p.gd n) p.Kw p.Kw D') (M:v.rowIs p.Gn 27 p.n λi=>if i=n then nk else if i<n then d.nx i else Hq)
 (O:∃m t,nk=.slice m (Ih p.xs n).length t/\Yv v (λb=>w.heap.size<=b/\b≠gB/\some b≠v'.ownBlock) m (Ih p.xs n))
 (R:YW v p.bS p.gS p.M p.K2 p.a p.n p.c Ws' v' Lf') (f:v'.ownBlock=d.vS.ownBlock\/∀q,v'.ownBlock=some q->w.heap.size<=q) (T:some gB≠v'.ownBlock) :
 LN p v (n+1) ⟨eh d.gi n gB,eh d.ci n CB,eh d.WI n I',eh d.WD n D',eh d.nx n nk,Ws',v',Lf'⟩:=by
 have U:=λq e=>(h.sea.own.lt q e).1;have hM:=s.a9;have aa:=s.a10;have hG:=s.a5;have W:=h.sz;have V:=h.low.size;have Z:=s.a7;have h8:=s.a8;have ac:=s.a6 n A;have k:∀q,q<p.M->q≠p.Gi->q≠p.gd n->q≠p.Gn->q≠p.bS->q≠p.gS->v.heap[q]?=w.heap[q]?:=λq r x z H I J=>D q oM x z H I J (λe=>by have:=U q e.symm;omega);have X:=s.a1;have C:=s.a2;have Y:=s.a3;have cA:∀q o B,q<p.sA->q≠p.Gi->w.cell? (Hk q o)=some B->v.cell? (Hk q o)=some B:=λq o B r x y=>(Xc<|k q oM x oM oM oM oM).trans y;have G:∀q,p.M<=q->q<w.heap.size->some q≠d.vS.ownBlock->v.heap[q]?=w.heap[q]?:=λq r x z=>D q x oM oM oM oM oM z;refine⟨⟨Q.trans h.low.os,S.trans h.low.tape,P.trans h.low.output,aJ V F,λq hq=>(k q oM oM oM oM oM oM).trans (h.low.block q hq)⟩,aJ W F,cA _ _ _ oM oM h.f0,cA _ _ _ oM oM h.f1,cA _ _ _ oM oM h.r0,cA _ _ _ oM oM h.r1,λq=>?rz,cA _ _ _ C.2 (λe=>s.d1 e.symm) h.l0,cA _ _ _ C.2 (λe=>s.d1 e.symm) h.l1,(Xc<|k p.DB oM oM oM oM oM oM).trans h.d0,?out,?inr,?ins,?inj,?igM,?defs,?nxr,?nxs,R,?giv⟩
 case rz=>rw[bJ (a:=(Hk (p.w.heap.size+1) q)) (k (p.w.heap.size+1) oM oM oM oM oM oM)];exact h.rz q
 case out=>
  refine⟨h.o.row.of_block (k p.Go oM (λe=>s.d2 e.symm) oM oM oM oM),λi a=>?_,h.o.inj,h.o.o⟩;have:=s.a4 i a;exact(h.o.set i a).of_block (k _ oM (s.d4 i a).1 oM oM oM oM)
 case inr=>
  refine L.congr λi _=>?_;by_cases e:i=n;·rw[aU e,aU oM,e];simp only[Zt]
  rw[aM e];by_cases e2:i<n;·rw[aU e2,aU oM];simp only[Zb _ _ _ e]
  rw[aM e2,aM oM]
 case ins=>
  intro i a;by_cases e:i=n;·subst e;simp only[Zt];exact N
  have g:i<n:=oM;simp only[Zb _ _ _ e];exact(h.ins i g).of_block (G _ (h.igM i g) (h.ins i g).lt (h.giv i g))
 case inj=>
  intro i j a E e;by_cases e1:i=n
  .by_cases e2:j=n;·omega
   simp only[e1,Zt,Zb _ _ _ e2]at e;have:=(h.ins j oM).lt;omega
  by_cases e2:j=n
  .simp only[e2,Zt,Zb _ _ _ e1]at e;have:=(h.ins i oM).lt;omega
  simp only[Zb _ _ _ e1,Zb _ _ _ e2]at e;exact h.inj i j oM oM e
 case igM=>
  intro i a;by_cases e:i=n;·subst e;simp only[Zt];omega
  simp only[Zb _ _ _ e];exact h.igM i oM
 case defs=>
  refine⟨h.defs.row.of_block (k p.Gd oM oM (λe=>h.defs.o n A e.symm) oM oM oM),λi a=>?_,h.defs.inj,h.defs.o⟩;by_cases e:i=n;·subst e;simp only[Zt];exact K
  simp only[Zb _ _ _ e];have:=s.a6 i a;exact(h.defs.set i a).of_block (k _ oM oM (λe2=>e<|h.defs.inj i n a A e2) oM oM oM)
 case nxr=>
  refine M.congr λi _=>?_;by_cases e:i=n;·rw[aU e,aU oM,e];simp only[Zt]
  rw[aM e];by_cases e2:i<n;·rw[aU e2,aU oM];simp only[Zb _ _ _ e]
  rw[aM e2,aM oM]
 case nxs=>
  intro i a;by_cases e:i=n
  .subst e;simp only[Zt];let⟨m,t,e1,r⟩:=O;refine⟨m,t,e1,λq hq=>?_⟩;let⟨b,o,e2,c,y⟩:=r q hq;refine⟨b,o,e2,⟨⟨oM,λj E=>?_,c.1.2.2⟩,c.2⟩,y⟩;by_cases u:j=i;·rw[u];simp only[Zt];exact c.1.2.1
   simp only[Zb _ _ _ u];have:=(h.ins j oM).lt;omega
  have g:i<n:=oM;simp only[Zb _ _ _ e];let⟨m,t,e1,r⟩:=h.nxs i g;refine⟨m,t,e1,λq hq=>?_⟩;let⟨b,o,e2,c,y⟩:=r q hq;refine⟨b,o,e2,⟨⟨c.1.1,λj E=>?_,λl=>?_⟩,oM⟩,(Xc<|G b c.1.1 c.2 c.1.2.2).trans y⟩
  .by_cases u:j=n;·rw[u];simp only[Zt];omega
   simp only[Zb _ _ _ u];exact c.1.2.1 j oM
  rcases f with f|f;·rw[f]at l;exact c.1.2.2 l
  have:=f b l.symm;omega
 intro i a;by_cases e:i=n;·subst e;simp only[Zt];exact T
 have g:i<n:=oM;simp only[Zb _ _ _ e];intro l;rcases f with f|f;·rw[f]at l;exact h.giv i g l
 have:=f _ l.symm;have:=(h.ins i g).lt;omega
theorem rY(tg:Nat->List Nat):∀(m b:Nat)(s:(Nat->Nat)×List Nat)(P:List Nat),(∀x,Xh s.1 x=true->x∈s.2\/x∈P)->∀x,Xh (C2 tg m b s).1 x=true->x∈(C2 tg m b s).2\/x∈P
 |0,_,_,_,h=>h
 |m+1,b,s,P,h=>by
  by_cases e:Xh s.1 b=true;·rw[Vd e];exact h
  have i:Xh s.1 b=false:=by simpa using e
  have g:∀(l:List Nat)(c:(Nat->Nat)×List Nat),(∀x,Xh c.1 x=true->x∈c.2\/x∈b::P)->∀x,Xh (l.foldl (λs t=>C2 tg m t s) c).1 x=true->x∈(l.foldl (λs t=>C2 tg m t s) c).2\/x∈b::P:=by
   intro l
   induction l with
   |nil=>exact λ_ h=>h
   |cons t l k=>exact λc f=>k _<|rY tg m t c (b::P) f
  rw[jd i];intro x j;rcases g (tg b) (YH s.1 b,s.2) (λy d=>by
   rw[Z8,dI,bD]at d;rcases d with rfl|d;·exact aZ sP
   rcases h y d with a|a;·exact bC a
   exact aZ<|by simp[a]) x j with a|a
  .exact bC<|by simp[a]
  rcases cH.1 a with rfl|a;·exact bC sP
  exact aZ a
theorem sE(tg:Nat->List Nat){n:Nat}(f:∀b,b<n->∀t∈tg b,t<n):∀(m b:Nat)(s:(Nat->Nat)×List Nat),b<n->(∀x∈s.2,x<n)->∀x∈(C2 tg m b s).2,x<n
 |0,_,_,_,h=>h
 |m+1,b,s,hb,h=>by
  by_cases e:Xh s.1 b=true;·rw[Vd e];exact h
  have j:Xh s.1 b=false:=by simpa using e
  have i:∀(l:List Nat)(c:(Nat->Nat)×List Nat),(∀t∈l,t<n)->(∀x∈c.2,x<n)->∀x∈(l.foldl (λs t=>C2 tg m t s) c).2,x<n:=by
   intro l
   induction l with
   |nil=>exact λ_ _ h=>h
   |cons t l k=>exact λc d g=>k _ (λq hq=>d q<|by simp[hq]) (sE tg f m t c (d t sP) g)
  rw[jd j];intro x a;rcases bU.1 a with a|a;·exact i (tg b) (YH s.1 b,s.2) (f b hb) h x a
  have:x=b:=by simpa using a
  omega
theorem x6(tg:Nat->List Nat){b:Nat}{s:(Nat->Nat)×List Nat}(c:b<n)(e:XB s.1 n<=m):Xh (C2 tg m b s).1 b=true:=by
 cases m with
 |zero=>exact KB tg 0 b s b<|T8 oM c
 |succ m=>
  by_cases a:Xh s.1 b=true;·exact KB tg _ b s b a
  have d:Xh s.1 b=false:=by simpa using a
  rw[jd d];exact Ue tg m _ _ b<|by rw[Z8];simp
def Ut(W:Nat->Nat)(q:Nat×List Int×List Int):Nat->Nat:=C3 (G7 W<|X9 q.2.2) (X9 q.2.1)
def Uo(W:Nat->Nat)(q:Nat×List Int×List Int):Nat->Nat:=C3 W<|X9 q.2.2
def I4(x:Xe)(W:Nat->Nat):Nat->Nat:=(Hw x).foldl Ut W
def I6(x:Xe):Nat->Nat:=(Hw x).foldl Uo λ_=>0
theorem Ej(x:Xe)(h:XA f):XA (I4 x f):=by
 unfold I4;generalize Hw x=l
 induction l generalizing f with
 |nil=>exact h
 |cons q l a=>exact a<|Zs _ (JX _ h)
theorem JW:XA (λ_=>0):=λ_=>by show 0<_;decide
theorem ro(l:List (Nat×List Int×List Int))(h:XA f):XA (l.foldl Uo f):=by
 induction l generalizing f with
 |nil=>exact h
 |cons q l a=>exact a<|Zs _ h
theorem Dz(x:Xe):XA (I6 x):=ro _ JW
structure Lk(p:VD)(k:Nat)(d:Lu):Prop where
 wi:∀i (h:i<p.xs.length),i<k->d.WI i=I4 p.xs[i] (p.WO i)
 wd:∀i (h:i<p.xs.length),d.WD i=if i<k then I6 p.xs[i]else λ_=>0
 mem:∀x,Xh d.Ws x=true->x∈d.Lf
 sn:∀i,i<k->Xh d.Ws i=true
 lt:∀x∈d.Lf,x<p.n
 wok:XA d.Ws
 len:d.Lf.length+XB d.Ws p.n<=p.n
theorem Ab(p:VD):Lk p 0 ⟨λ_=>0,λ_=>0,λ_ _=>0,λ_ _=>0,λ_=>Hq,λ_=>0,Hq,[]⟩ :=
 ⟨λi _ h=>absurd h oM,λi _=>sP,λx h=>by simp[Z3]at h,λi h=>absurd h oM,λx h=>absurd h eA,JW,by simpa using ZA (λ_=>0) p.n⟩
theorem Lk.next{p:VD}{d:Lu}(h:Lk p n d)(f:n<p.n)(g:∀b,b<p.n->∀t∈X8 p.xs b,t<p.n)(k j:Nat->Nat)(nx:Nat->Value)(v:Value){I' D':Nat->Nat}(s:n<p.xs.length)(m:I'=I4 p.xs[n] (p.WO n))(l:D'=I6 p.xs[n]) :
 Lk p (n+1) ⟨k,j,eh d.WI n I',eh d.WD n D',nx,(C2 (X8 p.xs) p.n n (d.Ws,d.Lf)).1,v,(C2 (X8 p.xs) p.n n (d.Ws,d.Lf)).2⟩:=by
 refine⟨λi a r=>?_,λi a=>?_,λx o=>?_,λi a=>?_,?_,j4 _ _ _ _ h.wok,aJ (nL _ _ g _ _ _ f) h.len⟩
 .by_cases e:i=n;·subst e;simp only[Zt];exact m
  simp only[Zb _ _ _ e];exact h.wi i a oM
 .by_cases e:i=n;·subst e;simp only[Zt];rw[aU oM];exact l
  simp only[Zb _ _ _ e];rw[h.wd i a];by_cases e2:i<n;·rw[aU e2,aU oM]
  rw[aM e2,aM oM]
 .rcases rY (X8 p.xs) p.n n (d.Ws,d.Lf) [] (λy q=>bC<|h.mem y q) x o with c|c;·exact c
  cases c
 .by_cases e:i=n;·subst e;exact x6 _ f<|ZA _ _
  exact KB _ _ _ _ _<|h.sn i oM
 exact sE _ g _ _ _ f h.lt
def Fa(y:Yg):Int:=if dB y.op then y.dst else -1
def Ya(v:Int)(fin:Bool):List Yg->Nat
 |[]=>if fin then 1 else 0
 |y::ys=>if Bs (Ft y) v then 1 else if Fa y=v then 2 else Ya v fin ys
def Hd(x:Xe)(E:List Int)(v:Int):Nat:=Ya v (Bs (G2 x.te) v||Bs E v) x.is
def kj(W:Nat->Nat)(y:Yg):Nat->Nat:=C3 (G7 W<|X9 (BW y)) (X9<|Ft y)
theorem XD:Bs l t=true↔t∈l:=by unfold Bs;exact eY
theorem yM{y:Yg}(a:∀v∈Ft y,0<=v)(b:∀v∈BW y,0<=v)(v:Nat):Xh (kj f y) v=true↔(v:Int)∈Ft y\/((v:Int)∉BW y/\Xh f v=true):=by
 unfold kj;rw[YR,Kt,dI,bD,YV a,bY,bD,YV b]
theorem YN{y:Yg}:Fa y=(n:Int)↔(n:Int)∈BW y:=by
 unfold Fa BW;by_cases e:dB y.op=true;·rw[aU e,aU e];simp[nJ]
 rw[aM e,aM e];simp
theorem uq{v:Nat}{W:Nat->Nat}:∀(a:List Yg),(∀y∈a,(∀v∈Ft y,0<=v)/\∀v∈BW y,0<=v)->(Xh (a.foldr (λy c=>kj c y) W) v=true↔Ya (v:Int) (Xh W v) a=1)
 |[],_=>by
  unfold Ya;cases h:Xh W v<;>simp[h]
 |y::a,hy=>by
  have e:=uq (v:=v) (W:=W) a λz d=>hy z<|cN _ d;have b:=hy y cI;rw[List.foldr_cons,yM b.1 b.2,e];show _↔(if Bs (Ft y) (v:Int)then 1 else if Fa y=(v:Int)then 2 else Ya (v:Int) (Xh W v) a)=1;by_cases e1:(v:Int)∈Ft y;·rw[aU<|XD.2 e1];simp[e1]
  rw[aM λh=>e1<|XD.1 h];by_cases e2:(v:Int)∈BW y;·rw[aU<|YN.2 e2];simp[e1,e2]
  rw[aM λh=>e2<|YN.1 h];simp[e1,e2]
theorem CF{a b:Type}(l:List a)(g:Fin l.length->b):(Us l.length 0).map g=((List.finRange l.length).map g).reverse:=by
 unfold Us;rw[aW sP,List.map_reverse]
theorem Ds{a:Type}(l:List a):(List.finRange l.length).map (λj=>l[j])=l:=by
 apply mG;·simp
 intro i b c;simp
theorem CH(x:Xe)(W:Nat->Nat):((Us x.is.length 0).map (VH x)).foldl Ut W=x.is.foldr (λy a=>kj a y) W:=by
 rw[CF,List.foldl_reverse]
 conv=>rhs;rw[<-Ds x.is]
 rw[List.foldr_map,List.foldr_map];rfl
theorem sQ(h:∀y∈q.is,(∀n∈Ft y,0<=n)/\∀n∈BW y,0<=n)(d:∀n∈G2 q.te,0<=n)(c:∀p∈q.ps,0<=p.dst) :
 Xh (I4 q f) n=true↔(n:Int)∉q.ps.map Ph.dst/\Ya (n:Int) (Bs (G2 q.te) (n:Int)||Xh f n) q.is=1:=by
 unfold I4 Hw;rw[iM,dT,iM,List.foldl_nil,CH];have b:∀n∈q.ps.map Ph.dst,0<=n:=λn g=>by obtain⟨p,a,rfl⟩:=aY.1 g;exact c p a
 show Xh (C3 (G7 _<|X9 (q.ps.map Ph.dst)) (X9 [])) n=true↔_;rw[YR,Kt,dI,bD,bY,bD,YV b];rw[uq q.is h];have e:Xh (Ut f (q.is.length+1,G2 q.te,[])) n=(Bs (G2 q.te) (n:Int)||Xh f n):=by
  show Xh (C3 (G7 f<|X9 []) (X9<|G2 q.te)) n=_;rw[YR,Kt,eQ,dI,dI,bD,YV d,XD];simp[X9]
 rw[e];simp[X9]
theorem WK(d:∀y∈q.is,∀n∈BW y,0<=n)(i:∀p∈q.ps,0<=p.dst):Xh (I6 q) n=true↔(n:Int)∈q.ps.map Ph.dst\/∃y∈q.is,(n:Int)∈BW y:=by
 have f:∀(l:List (Nat×List Int×List Int))(W:Nat->Nat),Xh (l.foldl Uo W) n=true↔Xh W n=true\/∃b∈l,n∈X9 b.2.2:=by
  intro l
  induction l with
  |nil=>intro W;simp
  |cons b l m=>
   intro W;rw[iM,m];unfold Uo;rw[YR,dI,bD];simp only[cH,exists_eq_or_imp];constructor
   .rintro((h|h)|h);·exact aZ<|bC h
    .exact bC h
    exact aZ<|aZ h
   rintro(h|h|h);·exact bC<|aZ h
   .exact bC<|bC h
   exact aZ h
 have c:∀n∈q.ps.map Ph.dst,0<=n:=λn a=>by obtain⟨p,e,rfl⟩:=aY.1 a;exact i p e
 unfold I6;rw[f,Z3];unfold Hw;constructor
 .rintro(h|⟨b,hq,a⟩);·cases h
  rcases cH.1 hq with rfl|hq;·simp[X9]at a
  rcases bU.1 hq with hq|hq
  .obtain⟨j,_,rfl⟩:=aY.1 hq;exact aZ ⟨q.is[j],aH _,(YV<|d _ (aH _)).1 a⟩
  rw[cS.1 hq]at a;exact bC<|(YV c).1 a
 rintro(h|⟨y,k,a⟩);·exact aZ ⟨_,pU q,(YV c).2 h⟩
 obtain⟨j,g,rfl⟩:=bR k;exact aZ ⟨_,qJ q ⟨j,g⟩,(YV<|d _ (aH _)).2 a⟩
theorem UQ{v:Nat}{fin:Bool}:∀(c:List Yg),Ya (v:Int) fin c=0->∀y∈c,(v:Int)∉BW y
 |[],_,_,h=>by cases h
 |z::zs,h,y,b=>by
  have a:(if Bs (Ft z) (v:Int)then 1 else if Fa z=(v:Int)then 2 else Ya (v:Int) fin zs)=0:=h;by_cases e1:Bs (Ft z) (v:Int)=true;·rw[aU e1]at a;cases a
  rw[aM e1]at a;by_cases e2:Fa z=(v:Int);·rw[aU e2]at a;cases a
  rw[aM e2]at a;rcases cH.1 b with rfl|b;·exact λd=>e2<|YN.2 d
  exact UQ zs a y b
theorem Ud{v:Nat}{fin:Bool}:∀(a:List Yg),(∀y∈a,(v:Int)∉BW y)->Ya (v:Int) fin a≠2
 |[],_=>by unfold Ya;split<;>simp
 |z::zs,h=>by
  show(if Bs (Ft z) (v:Int)then 1 else if Fa z=(v:Int)then 2 else Ya (v:Int) fin zs)≠2;by_cases e1:Bs (Ft z) (v:Int)=true;·rw[aU e1];simp
  rw[aM e1,aM λe2=>h z cI<|YN.1 e2];exact Ud zs λy b=>h y<|cN _ b
theorem Vg{v:Int}{fin:Bool}:∀(a:List Yg),Ya v fin a<=2
 |[]=>by unfold Ya;split<;>simp
 |z::zs=>by
  show(if Bs (Ft z) v then 1 else if Fa z=v then 2 else Ya v fin zs)<=2;split
  .decide
  split
  .decide
  exact Vg zs
theorem TV{v:Int}{fin:Bool}:∀(c:List Yg),Ya v fin c=1->fin=true\/∃y∈c,v∈Ft y
 |[],h=>by
  have a:(if fin then 1 else 0)=1:=h;cases fin<;>simp_all
 |z::zs,h=>by
  have a:(if Bs (Ft z) v then 1 else if Fa z=v then 2 else Ya v fin zs)=1:=h;by_cases e1:Bs (Ft z) v=true;·exact aZ ⟨z,cI,XD.1 e1⟩
  rw[aM e1]at a;by_cases e2:Fa z=v;·rw[aU e2]at a;cases a
  rw[aM e2]at a;rcases TV zs a with b|⟨y,d,b⟩;·exact bC b
  exact aZ ⟨y,cN _ d,b⟩
def HK(a:List Xe)(p t:Int):List Int:=match a[t.toNat]? with
 |none=>[]
 |some x=>if x.ps=[]then []else (List.range (AQ a 0 t).length).flatMap λi=>if (AQ a 0 t).getD i 0=p then x.ps.map (λh=>h.args.getD i 0)else []
def XP(a:List Xe)(b:Nat):List Int:=match a[b]? with
 |none=>[]
 |some x=>x.te.tg.flatMap<|HK a (b:Int)
theorem KE(q:Jy n x){b:Nat}(l:b<x.length):(m:Int)∈XP x b↔(b,m)∈IE x x.length:=by
 have j:=λH G t a=>(q.okf.tgt H G t a).1
 have D:(m:Int)∈XP x b↔∃t:Nat,∃a:t<x.length,∃i,i<(XX x x.length t).length/\(XX x x.length t).getD i 0=b/\∃p∈x[t].ps,p.args.getD i 0=(m:Int):=by
  unfold XP;rw[aC l];simp only[bV];constructor
  .rintro⟨t,a,f⟩;have u:=q.okf.tgt _ (aH l) t a;obtain⟨k,rfl⟩:=bX u.1;have y:k<x.length:=oN u.2;refine⟨k,y,?_⟩;unfold HK at f;rw[dM,aC y]at f;simp only at f;by_cases e:x[k].ps=[];·rw[aU e]at f;cases f
   rw[aM e]at f;let⟨i,d,c⟩:=bV.1 f;rw[K9 j]at d c;have v:i<(XX x x.length k).length:=by simpa [Xi]using d
   by_cases e2:(Xi<|XX x x.length k).getD i 0=(b:Int)
   .rw[aU e2]at c;let⟨p,g,s⟩:=aY.1 c;refine⟨i,v,?_,p,g,s⟩;simp only[Xi,bF,dX,aC v,jY,gR]at e2 |-;have:((XX x x.length k)[i]:Int)=(b:Int):=e2;omega
   rw[aM e2]at c;cases c
  rintro⟨t,a,i,d,h,p,c,g⟩
  have E:b∈XX x x.length t:=by
   rw[<-h,bF,aC d];exact aH d
  have F:(t:Int)∈x[b].te.tg:=by
   have:=(Uf.1 E).2;rw[Km l]at this;let⟨A,r,e⟩:=aY.1 this;have:=j _ (aH l) A r;rw[show(t:Int)=A by omega];exact r
  refine⟨(t:Int),F,?_⟩;unfold HK;rw[dM,aC a];simp only;rw[aM (λe=>by rw[e]at c;cases c),K9 j];refine bV.2 ⟨i,by simpa [Xi]using d,?_⟩;rw[aU (by
   simp only[Xi,bF,dX,aC d,jY,gR]at h |-;show((XX x x.length t)[i]:Int)=(b:Int);rw[h])]
  exact aY.2 ⟨p,c,g⟩
 rw[D];unfold IE MO LH;rw[bV];constructor
 .rintro⟨t,a,i,d,h,p,c,g⟩;refine⟨t,bE.2 a,?_⟩;rw[aC a];refine bV.2 ⟨p,c,?_⟩;have z:=(q.pha t a p c).1;rw[K9 j]at z;have I:p.args.length=(XX x x.length t).length:=by simpa [Xi]using z
  have o:i<p.args.length:=oM;rw[bF,aC o]at g;rw[bF,aC d]at h;have r:i<((XX x x.length t).zip (X9 p.args)).length:=by simp[X9];omega
  have e:((XX x x.length t).zip (X9 p.args))[i]=(b,m):=by
   rw[List.getElem_zip];simp only[X9,cM];have B:(XX x x.length t)[i]=b:=h;have C:p.args[i]=(m:Int):=g;rw[B,C];rfl
  rw[<-e];exact aH r
 rintro⟨t,a,f⟩;have a:=bE.1 a;rw[aC a]at f;let⟨p,c,g⟩:=bV.1 (show _∈List.flatMap _ x[t].ps from f);let⟨i,d,e⟩:=bR g;rw[List.getElem_zip]at e;have w:i<(XX x x.length t).length:=by simp at d;omega
 have o:i<p.args.length:=by simp[X9]at d;omega
 refine⟨t,a,i,w,?_,p,c,?_⟩
 .rw[bF,aC w];exact fI Prod.fst e
 rw[bF,aC o];have s:(X9 p.args)[i]'(by simp[X9];omega)=m:=fI Prod.snd e;simp only[X9,cM]at s;have:=(q.pha t a p c).2 p.args[i] (aH o);show p.args[i]=(m:Int);omega
def Cp(a:List Xe)(b v:Nat):Nat:=match a[b]? with
 |none=>0
 |some x=>Hd x (XP a b) (v:Int)
def Yo(a:List Xe)(b v:Nat):Bool:=match a[b]? with
 |none=>false
 |some x=>Bs (x.ps.map Ph.dst) (v:Int)
inductive IF (xs:List Xe) (v:Nat):Nat->Prop
 |root:IF xs v 0
 |step {b t:Nat}:IF xs v b->Yo xs b v=false->Cp xs b v=0->t∈X8 xs b->IF xs v t
def Ic(a:List Xe)(v:Nat):Prop:=∃b,IF a v b/\Yo a b v=false/\Cp a b v=1
theorem IF.lt(h:UF x){b:Nat}(a:IF x n b):b<x.length:=by
 induction a with
 |root=>exact h.n1
 |step _ _ _ c d=>exact h.tg _ d _ c
theorem Dk(d:Jy n x){q:Nat->Nat->Nat}(E:∀i (h:i<x.length),M i=I4 x[i] (q i))(C:∀i (h:i<x.length),N i=I6 x[i])(F:∀b,b<x.length->∀m,Xh (q b) m=true↔(b,m)∈IE x x.length){ord:Nat->Prop}(I:∀b,b<x.length->ord b){src:Nat->List Nat}(D:∀b,b<x.length->src b=X8 x b) :
 Sp M N ord src 0 m↔Ic x m:=by
 have B:∀b,b<x.length->(Xh (M b) m=true↔Yo x b m=false/\Cp x b m=1):=λb a=>by
  have g:=aH a;rw[E b a,sQ (λy j=>⟨λz k=>(d.rdi _ g y j z k).1,λz k=>(d.wri _ g y j z k).1⟩) (λz k=>(d.rdt _ g z k).1) λp o=>(d.phd _ g p o).1];unfold Yo Cp Hd;rw[aC a];simp only;have r:Xh (q b) m=Bs (XP x b) (m:Int):=by rw[eQ,F b a,XD,KE d a]
  rw[r,<-gU,XD]
 have G:∀b,b<x.length->Yo x b m=false->Cp x b m=0->Xh (N b) m=false:=λb a e c=>by
  have g:=aH a;rw[C b a,<-gU,WK (λy j z k=>(d.wri _ g y j z k).1) λp o=>(d.phd _ g p o).1];unfold Yo at e;unfold Cp Hd at c;rw[aC a]at e c;simp only at e c;rintro(h|⟨y,j,h⟩);·rw[XD.2 h]at e;cases e
  exact UQ _ c y j h
 have H:∀b,b<x.length->Xh (N b) m=false->Yo x b m=false/\Cp x b m≠2:=λb a h=>by
  have g:=aH a;rw[C b a,<-gU,WK (λy j z k=>(d.wri _ g y j z k).1) λp o=>(d.phd _ g p o).1]at h;unfold Yo Cp Hd;rw[aC a];simp only;refine⟨?_,Ud _ λy j c=>h<|aZ ⟨y,j,c⟩⟩;rw[<-gU,XD];exact λc=>h<|bC c
 constructor
 .intro h
  have w:∀b l,Sp M N ord src b l->l=m->IF x m b->Ic x m:=by
   intro b l u
   induction u with
   |init e=>rintro rfl f;exact⟨_,f,(B _<|f.lt d.okf).1 e⟩
   |@take b K l e c A s v=>
    rintro rfl f;have a:=f.lt d.okf;have t:=H b a s;have J:Cp x b l<=2:=by
     unfold Cp;split;·exact aN _
     exact Vg _
    by_cases r:Cp x b l=1;·exact⟨b,f,t.1,r⟩
    exact v rfl<|IF.step f t.1 (oN t.2) (by rw[<-D b a];exact c)
  exact w 0 m h rfl IF.root
 rintro⟨b,f,e,c⟩
 have w:∀b,IF x m b->Sp M N ord src b m->Sp M N ord src 0 m:=by
  intro b f
  induction f with
  |root=>exact λh=>h
  |@step b L e c A s v=>
   intro u;have a:=e.lt d.okf;exact v<|Sp.take (I b a) (by rw[D b a];exact s) u (G b a c A)
 exact w b f<|Sp.init ((B b<|f.lt d.okf).2 ⟨e,c⟩)
theorem tR(a:Jy n x)(k:Ic x m):m<n:=by
 let⟨b,p,_,c⟩:=k;have g:=p.lt a.okf;have i:=aH g;unfold Cp Hd at c;rw[aC g]at c;simp only at c;rcases TV _ c with e|⟨y,r,e⟩
 .rcases dI _ _▸e with f|f;·have:=(a.rdt _ i _<|XD.1 f).2;omega
  have h:=(KE a g).1 (XD.1 f);unfold IE MO LH at h;let⟨t,d,j⟩:=bV.1 h;have d:=bE.1 d;rw[aC d]at j;let⟨u,q,l⟩:=bV.1 (show _∈List.flatMap _ x[t].ps from j);have o:=List.of_mem_zip l;let⟨z,s,v⟩:=aY.1 o.2;have:=(a.pha t d u q).2 z s;omega
 have:=(a.rdi _ i y r _ e).2;omega
def Ht(a:List Int)(v:Int):Int:=a.getD v.toNat 0
def ZR(a:List Int)(x:Yg):Yg:=⟨x.op,if dB x.op=true then Ht a x.dst else x.dst,if aB x.op=true then Ht a x.a else x.a,if bB x.op=true then Ht a x.b else x.b,x.imm⟩
def II(a:List Int)(t:Yj):Yj:=⟨t.kind,if t.kind=1 then t.a else Ht a t.a,t.to,t.els⟩
def ik(a:List Xe)(t:Int):List Ph:=match a[t.toNat]? with|some x=>x.ps|none=>[]
def IW(a:List Int)(b:List Xe)(p:Nat)(t:Int):List Mv:=(Ha (de (AQ b 0 t) (p:Int)) (ik b t)).map λq=>⟨Ht a q.1,Ht a q.2⟩
def ID(a:List Int)(b:List Xe)(p:Nat)(t:Int):List Yg:=dv<|IW a b p t
def au(a:List Int)(b:List Xe)(p:Nat)(t:Int)(m:Nat):Int×List ag:=if ID a b p t=[]then (t,[])else ((m:Int),[⟨ID a b p t,⟨1,0,t,0⟩⟩])
def IK(a:List Int)(c:List Xe)(b:Nat)(x:Xe)(m:Nat):ag×List ag :=
 if x.te.kind=1 then (⟨x.is.map (ZR a)++ID a c b x.te.to,II a x.te⟩,[])
 else if x.te.kind=2 then (⟨x.is.map<|ZR a,⟨x.te.kind,Ht a x.te.a,(au a c b x.te.to m).1,(au a c b x.te.els<|m+(au a c b x.te.to m).2.length).1⟩⟩,(au a c b x.te.to m).2++(au a c b x.te.els<|m+(au a c b x.te.to m).2.length).2)
 else (⟨x.is.map<|ZR a,II a x.te⟩,[])
def ak(c:List Int)(a:List Xe):Nat->List ag×List ag
 |0=>([],[])
 |b+1=>match a[b]? with
  |none=>ak c a b
  |some x=>((ak c a b).1++[(IK c a b x<|a.length+(ak c a b).2.length).1],(ak c a b).2++(IK c a b x<|a.length+(ak c a b).2.length).2)
def GI(b:List Int)(a:List Xe):List ag:=(ak b a a.length).1++(ak b a a.length).2
theorem iR(c:List Int)(a:List Xe)(b:Nat)(h:b<a.length):ak c a (b+1)=((ak c a b).1++[(IK c a b a[b] (a.length+(ak c a b).2.length)).1],(ak c a b).2++(IK c a b a[b] (a.length+(ak c a b).2.length)).2):=by
 rw[ak,aC h]
theorem ig(c:List Int)(a:List Xe):∀b,b<=a.length->(ak c a b).1.length=b
 |0,_=>rfl
 |b+1,h=>by rw[iR c a b oM,aQ,ig c a b oM];rfl
theorem lj(a:List Int)(b:List Xe)(p:Nat)(t:Int)(m:Nat):(au a b p t m).2.length<=1:=by
 unfold au;split<;>simp
theorem GK(a:List Int)(c:List Xe)(b:Nat)(x:Xe)(m:Nat):(IK a c b x m).2.length<=2:=by
 unfold IK;split;·simp
 split
 .have d:=lj a c b x.te.to m;have e:=lj a c b x.te.els<|m+(au a c b x.te.to m).2.length;rw[aQ];omega
 simp
theorem oX(c:List Int)(a:List Xe):∀b,b<=a.length->(ak c a b).2.length<=2*b
 |0,_=>by simp[ak]
 |b+1,h=>by
  have d:=oX c a b oM;have e:=GK c a b a[b] (a.length+(ak c a b).2.length);rw[iR c a b oM,aQ];omega
theorem vt(a:List Xe)(h:n<a.length):ik a (n:Int)=a[n].ps:=by
 unfold ik;rw[dM,aC h]
def be(a:List Yg):List Yg:=a.filter λx=>decide (x.op<=10)
theorem vw:∀(k:Nat)(L:List Mv),∀y∈dh k L,¬y.op<=10
 |0,_,y,h=>by simp[dh]at h
 |_+1,[],y,h=>by simp[dh]at h
 |k+1,m::L,y,h=>by
  rcases cH.1 h with rfl|h
  .unfold b9;cases aw (dq (m::L))with
   |some t=>dsimp only;unfold Io;split<;>simp
   |none=>
    cases e:aw (ah (m::L))with
    |some t=>simp
    |none=>rw[ie]at e;simp[ah]at e
  exact vw k _ y h
theorem vJ(b:List Int)(c:List Xe)(p:Nat)(t:Int):be (ID b c p t)=[]:=by
 unfold be;rw[mJ];intro y a;unfold ID dv at a;split at a;·simpa using vw _ _ y a
 cases a
theorem py(b:List Int){a:List Yg}(h:∀y∈a,y.op<=10):be (a.map<|ZR b)=a.map (ZR b):=by
 unfold be;rw[List.filter_eq_self];intro y c;obtain⟨z,d,rfl⟩:=aY.1 c;exact eB<|h z d
theorem GT(a b:List Yg):be (a++b)=be a++be b:=by simp[be]
def ju(n:Nat)(M:List ag)(u v:Int):Prop:=u=v\/∃k:Nat,u=k/\n<=k/\∃y,M[k]?=some y/\y.te.to=v
theorem vh(c:List Int)(a:List Xe){b:Nat}(g:b<a.length):∀j,b<j->j<=a.length->∃d e,(ak c a j).1=(ak c a b).1++(IK c a b a[b] (a.length+(ak c a b).2.length)).1::d/\(ak c a j).2=(ak c a b).2++((IK c a b a[b] (a.length+(ak c a b).2.length)).2++e)
 |0,h,_=>absurd h<|Nat.not_lt_zero _
 |j+1,h,hj=>by
  rw[iR c a j hj];by_cases f:b=j
  .subst f;exact⟨[],[],rfl,sP⟩
  obtain⟨d,e,e1,e2⟩:=vh c a g j oM oM;exact⟨_,_,by rw[e1,cK,cW],by rw[e2,cK,cK]⟩
theorem GO(c:List Int)(b:Nat)(m:Nat)(f:∀t∈q.te.tg,0<=t/\t<x.length):∀y∈(IK c x b q m).2,be y.is=[]/\y.te.kind=1/\0<=y.te.to/\y.te.to<x.length:=by
 have d:∀t∈q.te.tg,∀m,∀y∈(au c x b t m).2,be y.is=[]/\y.te.kind=1/\0<=y.te.to/\y.te.to<x.length:=λt h m y a=>by
  unfold au at a;split at a;·cases a
  rw[cS.1 a];exact⟨vJ _ _ _ _,rfl,f t h⟩
 intro y a;unfold IK at a;split at a;·cases a
 split at a
 .have e:q.te.tg=[q.te.to,q.te.els]:=by simp[Yj.tg, *]
  rcases bU.1 a with h|h;·exact d _ (by simp[e]) _ y h
  exact d _ (by simp[e]) _ y h
 cases a
theorem uU(b:List Int){a:List Xe}(c:∀x∈a,∀t∈x.te.tg,0<=t/\t<a.length):∀j,j<=a.length->∀y∈(ak b a j).2,be y.is=[]/\y.te.kind=1/\0<=y.te.to/\y.te.to<a.length
 |0,_,y,hy=>by simp[ak]at hy
 |j+1,hj,y,hy=>by
  rw[iR b a j hj]at hy;rcases bU.1 hy with h|h;·exact uU b c j oM y h
  exact GO b j _ (c _<|aH _) y h
structure Mu(xs:List Xe)(cs:List Int)(M:List ag):Prop where
 len:xs.length<=M.length
 big:∀b (h:b<M.length),xs.length<=b->be M[b].is=[]/\M[b].te.kind=1/\0<=M[b].te.to/\M[b].te.to<xs.length
 sml:∀b (h:b<M.length) (h2:b<xs.length),be M[b].is=xs[b].is.map (ZR cs)/\M[b].te.kind=xs[b].te.kind/\(xs[b].te.kind≠1->M[b].te.a=Ht cs xs[b].te.a/\M[b].is.length=xs[b].is.length)/\(xs[b].te.kind≠3->ju xs.length M M[b].te.to xs[b].te.to)/\(xs[b].te.kind=2->ju xs.length M M[b].te.els xs[b].te.els)
theorem GW(a:List Int)(k:Jy n x)(s:∀u∈x,∀y∈u.is,y.op<=10):Mu x a (GI a x):=by
 have q:=ig a x x.length<|aA _;refine⟨by unfold GI;rw[aQ];omega,λb l A=>?_,λb l f=>?_⟩
 .unfold GI at l |-;rw[fN oM];exact uU a k.okf.tgt x.length (aA _) _ (aH _)
 let⟨B,C,e1,e2⟩:=vh a x f x.length f<|aA _
 have h:=s _<|aH f;have w:=k.kind _<|aH f;have r:=ig a x b oM;generalize z:x.length+(ak a x b).2.length=m at*;have p:(GI a x)[b]=(IK a x b x[b] m).1:=by
  apply gQ;rw[<-aC];unfold GI;rw[dL oM,e1,eV oM,r,kL];rfl
 have d:∀i,i<(IK a x b x[b] m).2.length->(GI a x)[m+i]?=(IK a x b x[b] m).2[i]?:=λi v=>by
  unfold GI;rw[eV oM,q,e2,eV oM,dL oM];congr 1;omega
 rw[p];have o:∀t i,(au a x b t<|m+i).2.length=0\/((GI a x)[m+i]?=(au a x b t<|m+i).2[0]?)->ju x.length (GI a x) (au a x b t<|m+i).1 t:=λt i c=>by
  unfold au at c |-;split;·exact bC rfl
  rename_i e;rw[aM e]at c;rcases c with c|c;·simp at c
  exact aZ ⟨m+i,rfl,oM,_,c,rfl⟩
 generalize GI a x=M at*;unfold IK at d |-;by_cases g:x[b].te.kind=1
 .rw[aU g];exact⟨by rw[GT,vJ,py a h,fF],rfl,λe=>absurd g e,λ_=>bC rfl,λe=>oM⟩
 rw[aM g]at d |-;by_cases j:x[b].te.kind=2
 .rw[aU j]at d |-;refine⟨py a h,rfl,λ_=>⟨rfl,sP⟩,λ_=>?_,λ_=>?_⟩
  .refine o _ 0 ?_;rw[fW];by_cases e:(au a x b x[b].te.to m).2.length=0;·exact bC e
   refine aZ ?_;have:=d 0 (by rw[aQ];omega);rw[fW,dL oM]at this;exact this
  refine o _ _ ?_;by_cases e:(au a x b x[b].te.els (m+(au a x b x[b].te.to m).2.length)).2.length=0;·exact bC e
  refine aZ ?_;have:=d (au a x b x[b].te.to m).2.length (by rw[aQ];omega);rw[eV<|aA _,kL]at this;exact this
 rw[aM j];exact⟨py a h,rfl,λ_=>⟨by show(if x[b].te.kind=1 then _ else _)=_;rw[aM g],sP⟩,λe=>oM,λe=>absurd e j⟩
def WC(P:List Int)(k:Nat)(c:Nat):List Nat:=(List.range k).filter λb=>P.getD b 0==(c:Int)
theorem Ao(P:List Int)(c:Nat):WC P P.length c=IV P c:=rfl
theorem B6(P:List Int)(k c:Nat):(WC P k c).length<=k:=aJ (fJ _ _) sP
theorem Az(h:l.getD n 0=(m:Int))(i:Nat):Xi (WC l (n+1) i)=if i=m then Xi (WC l n m)++[(n:Int)]else Xi (WC l n i):=by
 unfold WC;rw[dN,eU,iW,jX,h];by_cases e:i=m
 .subst e;rw[aU sP,aU rfl];simp[Xi]
 rw[aM (by simp;omega),aM e];simp[Xi]
theorem zW{P:List Int}(h:P.getD k 0<0)(i:Nat):WC P (k+1) i=WC P k i:=by
 unfold WC;rw[dN,eU,iW,jX,aM (by rw[iA];omega),fF]
theorem Y0(l:List Nat):(Xi l).length=l.length:=by simp[Xi]
theorem vX(x:Option Addr)(n c:Nat)(P:List Int)(L B:Nat)(w:World)(ha:Hs (Xf w L B x P))(F:Hs (n=P.length))(hn:n<=1000)(hB:B<=w.heap.size)(K:Hs (∀p∈P,p<n)) :
 Calls prog 96 #[.slice x n c] w λl s=>∃y I,l=.returned (.slice y n I)/\Below w.heap.size w s/\XR s w.heap.size s.heap.size y ((List.range n).map λi:Nat=>Xi<|IV P i):=by
 obtain⟨Y,Q,V,W,X⟩:=fX Nv;have al:=fM (P:=prog) 71 27 Hq 24 underlying71 Ny rfl .i64 .i64 n oM oM
 go_in
 go_wp2
 go_loopw [11] (λi wr=>∃k:Nat,k<=n/\i=Hp k/\Below w.heap.size w wr/\Hs (∃U,YT wr w.heap.size n (λi=>Xi<|WC P k i) U)) λi _=>n-(intOf i).toNat
 case atStart=>exact⟨0,aN _,rfl,Xb (Below.refl _ _) _,⟨_,YT.born w n⟩⟩
 obtain⟨k,hk,rfl,f,j⟩:=hrel;by_cases aj:k<n
 .have o:k<P.length:=oN F.o;obtain⟨b,aq,rfl,⟨_,ab⟩,A⟩:=ha k o;have ad:=(XU f oM).trans A;have ao:=K _<|aH o;have C:P.getD k 0=P[k]:=by simp[o]
  have v:=Xa C;generalize P[k]=p at*;by_cases R:0<=p
  .obtain⟨t,rfl⟩:=bX R;have e:t<n:=oM;obtain⟨U,d⟩:=j.o;have N:=d.1.cell e;have O:=d.1.frozen t;have ap:(Xi<|WC P k t).length<=k:=by rw[Y0];exact B6 P k t
   have a:=Xa d;go_wp2_with (at_builtin;refine bT _ rfl _ _ 27 rfl (w.heap.size+1) 2 Y (Hp 0) 1 8 underlying27 Q V W X rfl vZ _ _ _ rfl ((a.alloc _).2.1 t e) (Hk wr.heap.size 0) 1 1 [Hp k] rfl rfl ?c1 ?c2 ?c3 ?c4 ?c5 ?_)
   case c1=>
    intro Z aa h
    match Z,h with
    |0,h=>simp at h;subst h;simp[Addr.add]
   case c2=>intro aa D;simp at D;subst D;rfl
   case c3=>unfold maxLen;omega
   case c4=>omega
   case c5=>have:=a.1.lt;simp;omega
   intro v1 u q g _ z;obtain⟨av,cv,r,_⟩:=Xk (xs:=Xi (WC P k t)++[(k:Int)]) (by rw[Yl];exact q);have T:=Xa ((a.alloc<|.cells #[Hp k] 2).step e k v1 g q (by rw[aO];exact z));have m:u.heap[w.heap.size]?=(wr.alloc<|.cells #[Hp k] 2).heap[w.heap.size]?:=YJ g ((a.alloc<|.cells #[Hp k] 2).2.1 t e) oM (by have:=a.1.lt;simp;omega);have M:=Xa (Xy (Xb f<|.cells #[Hp k] 2) g ((a.alloc<|.cells #[Hp k] 2).2.1 t e) oM (by have:=f.size;simp;omega));have ac:u.cell? (Hk w.heap.size t)=some (U t):=by rw[Xc m];exact((a.alloc<|.cells #[Hp k] 2).1).cell e
   have af:u.frozen? (Hk w.heap.size t)=false:=by rw[bJ (w:=wr.alloc<|.cells #[Hp k] 2) (a:=(Hk w.heap.size t)) m];exact((a.alloc<|.cells #[Hp k] 2).1).frozen t
   have H:=Xa r;rw[r];go_wp2;have E:=H.o;rw[aQ,bA,bO,aV]at E;rw[<-E];refine⟨⟨k+1,oM,gM,M.setCell (by dsimp only;omega) _,⟨_,(T).congr λi _=>?_⟩⟩,by simp[intOf];omega⟩;exact(Az v i).symm
  have S:p<0:=oM;have G:=Xa (λi=>zW (P:=P) (k:=k) (by rw[v.o];exact S) i);go_wp2;refine⟨⟨k+1,oM,gM,f,?_⟩,by simp[intOf];omega⟩;obtain⟨U,d⟩:=j.o;exact⟨U,d.congr λi _=>by rw[G.o]⟩
 go_wp2;go_ret;obtain⟨U,d⟩:=j.o;have l:k=P.length:=oN F.o;refine⟨_,_,rfl,f,?_⟩;have J:=(d.congr (P':=λi:Nat=>Xi<|IV P i) λi _=>by rw[l,Ao]).ints;exact J.mono oM<|aA _
structure Js(w w':World)(v v':Value):Prop where
 os:w'.os=w.os
 tape:w'.tape=w.tape
 output:w'.output=w.output
 size:w.heap.size<=w'.heap.size
 block:∀k,k<w.heap.size->some k≠v.ownBlock->w'.heap[k]?=w.heap[k]?
 own:v'.ownBlock=v.ownBlock\/∀k,v'.ownBlock=some k->w.heap.size<=k
theorem Js.refl(w:World)(v:Value):Js w w v v:=⟨rfl,rfl,rfl,aA _,λ_ _ _=>rfl,bC rfl⟩
theorem Js.trans{v1 v2:Value}(h:Js w v a v1)(k:Js v u v1 v2):Js w u a v2:=by
 refine⟨k.os.trans h.os,k.tape.trans h.tape,k.output.trans h.output,aJ h.size k.size,λj d f=>?_,?_⟩
 .refine(k.block j (aX d h.size) λe=>?_).trans (h.block j d f);rcases h.own with b|b;·exact f<|by rw[e,b]
  have:=b j e.symm;omega
 rcases k.own with c|c
 .rcases h.own with b|b;·exact bC<|c.trans b
  exact aZ λj e=>b j<|by rw[<-c];exact e
 exact aZ λj e=>aJ h.size<|c j e
theorem Js.below(h:Js w v a A)(c:w.ownsRow n m k a B y)(f:n<=w.heap.size):Below n w v:=⟨h.os,h.tape,h.output,h.size,λb d=>h.block b oM λe=>by have:=(c.lt b e.symm).1;omega⟩
theorem Js.push{d:Obj}(b:(w.alloc d).grownBy v a.ownBlock)(h:A.ownBlock=a.ownBlock\/A.ownBlock=some (w.heap.size+1)):Js w v a A:=by
 have j:(w.alloc d).heap.size=w.heap.size+1:=aO _ _;have i:=b.size;refine⟨b.os,b.tape,b.output,oM,λk f g=>(b.block k oM g).trans (Below.heap_alloc _ _ _ f),?_⟩;rcases h with e|e;·exact bC e
 exact aZ λk c=>by rw[e]at c;injection c with c;omega
theorem DI(a:∀b c,c∈IV l b->f b<f c)(d:∀b,f b<=n){b:Nat}(h:n<=f b+m):XT l m b=b::(IV l b).flatMap (XT l<|m-1):=by
 cases m with
 |zero=>
  have:IV l b=[]:=by
   cases e:IV l b with
   |nil=>rfl
   |cons c j=>
    have g:=a b c (by rw[e];exact cI);have i:=d c;omega
  rw[this];rfl
 |succ m=>rfl
theorem wU(M:Option Addr)(n cc:Nat)(P:List Int)(L2 z d:Nat)(hx:Hs (n=P.length))(hn:n<=1000)(s:z<=d)(R:Nat->Nat)(O:Hs (∀b c,c∈IV P b->R b<R c))(Q:Hs (∀b,R b<=n)) :
 ∀(m b:Nat)(v:Value)(L:List Nat)(w:World),Hs (XR w L2 z M ((List.range n).map λi:Nat=>Xi<|IV P i))->Hs (w.ownsRow d 2 1 v L.length<|Je L)->d<=w.heap.size->b<n->Hs (n<=R b+m)->L.length+(XT P m b).length<=4000 ->
 Calls prog 95 #[v,.slice M n cc,Hp b] w λg w'=>∃y,g=.returned y/\Js w w' v y/\w'.ownsRow d 2 1 y (L++XT P m b).length (Je<|L++XT P m b):=by
 let⟨i0,ap,ar,ax,ay⟩:=Xq Nv;intro m
 induction m using Nat.strongRecOn with
 |_ m ih=>
  intro b v L w B G hz hb K t;have IH:=Xa ih;obtain⟨bc,oc,rfl,a3,a1,c1,h,x⟩:=B b (by simpa using hb);simp only[cM,dW,Y0]at h x;have C:=Xa<|DI O Q K;rw[C.o]at t |-;have ab:Hs (∀c∈IV P b,c<n/\n<=R c+(m-1)/\0<m):=Xa (λc T=>by
   have N:=O b c T;have h2:=Q c;have h3:=(nY.1 T).1;have:=K.o;have:=hx.o;omega)
  have aq:(IV P b).length<=n:=aJ DC<|oN hx.o;have E:=Xa x;generalize IV P b=a at*;let⟨q,hq⟩:∃q,q=a.length:=⟨_,rfl⟩;rw[<-hq]at h aq;have I:=Xa hq;have a0:L.length+1+(a.flatMap<|XT P (m-1)).length<=4000:=by simp only[bA]at t;omega
  go_in
  go_wp2_with (at_builtin;refine bT _ rfl _ _ 27 rfl d 2 i0 (Hp 0) 1 8 underlying27 ap ar ax ay rfl vZ _ _ _ rfl (G.alloc _) (Hk w.heap.size 0) 1 1 [Hp b] rfl rfl ?c1 ?c2 ?c3 ?c4 ?c5 ?_)
  case c1=>exact Yf _ _ _
  case c2=>intro u Z;simp at Z;subst Z;rfl
  case c3=>unfold maxLen;omega
  case c4=>omega
  case c5=>simp;omega
  intro v8 w8 Y V _ S;have p:=Xa (Js.push V<|by simpa using S);have H:Hs (w8.ownsRow d 2 1 v8 (L++[b]).length (Je<|L++[b])):=Xa (by rw[VP,aQ];exact Y);have l:=Xa<|p.below G hz;have a6:=p.size;have aj:=(XU l oM).trans h;have aa:=Xa<|B.keep (l.mono s);have ad:=Xa<|E.keep (l.mono s);go_wp2
  go_loopw [0,18] (λvo u wr=>∃j:Nat,j<=q/\u=Hp j/\Hs (Js w8 wr v8 vo)/\Hs (wr.ownsRow d 2 1 vo (L++[b]++(a.take j).flatMap (XT P<|m-1)).length (Je<|L++[b]++(a.take j).flatMap (XT P<|m-1)))) λ_ u _=>q-(intOf u).toNat
  case atStart=>exact⟨0,aN _,rfl,Xa<|Js.refl _ _,Xa<|by simpa using H.o⟩
  obtain⟨j,hj,rfl,e,f⟩:=hrel;have A:=Xa<|e.below H oM;by_cases a5:j<q
  .have k:j<a.length:=oN I.o;obtain⟨b5,o5,rfl,a2,e5⟩:=ad j (by rw[Y0];exact k);have W:(Xi a)[j]'(by rw[Y0];exact k)=((a[j]:Nat):Int):=by simp[Xi]
   rw[W]at e5;have az:=(XU A oM).trans e5;let⟨al,ao,hm⟩:=ab a[j] (aH k);have r:Hs ((a.take<|j+1).flatMap (XT P<|m-1)=(a.take j).flatMap (XT P<|m-1)++XT P (m-1) a[j]):=Xa (by rw[bN k,eZ];simp);have F:Hs ((L++[b]++(a.take j).flatMap (XT P<|m-1)).length+(XT P (m-1) a[j]).length<=4000):=Xa (by
    have N:(a.flatMap<|XT P (m-1)).length=((a.take<|j+1).flatMap (XT P<|m-1)).length+((a.drop<|j+1).flatMap (XT P<|m-1)).length:=by
     rw[<-aQ,<-eZ,hH]
    rw[r.o,aQ]at N;simp only[aQ,bA,bO];omega)
   have o:=Xa<|IH.o (m-1) oM a[j] u0 _ wr (Xa<|aa.keep (A.mono s)) f (oN e.size) al (Xa ao) F;have D:=Xa (show(L++[b]++(a.take j).flatMap (XT P<|m-1))++XT P (m-1) a[j]=L++[b]++(a.take<|j+1).flatMap (XT P<|m-1) by rw[r.o];simp);rw[D.o]at o;generalize a[j]=cj at*;go_wp2_with fail
   refine o.mono ?_;rintro g w5⟨v5,rfl,U,X⟩;have ac:=Xa<|e.trans U;have af:=Xa X;go_wp2;exact⟨⟨j+1,oM,gM,ac,af⟩,by simp[intOf];omega⟩
  have a4:j=q:=oM;have J:Hs (a.take j=a):=Xa<|aW (oN I.o);rw[J.o]at f;go_wp2;go_ret;refine⟨u0,rfl,p.trans e,?_⟩;have g:L++b::a.flatMap (XT P<|m-1)=L++[b]++a.flatMap (XT P<|m-1):=sP;rw[g];exact f
section
theorem Ns:(prog.info? 69).map (λi=>(i.zero,i.size,i.bytes))=some (some<|.agg #[Hq],1,24):=kR
structure LX(w6 wr:World)(F:Nat)(x2 x3:Value)(U V:Nat->Value)(b1:Nat)(p1:Option Addr)(c1 b2:Nat)(p2:Option Addr)(c2:Nat):Prop where
 e0:wr.cell? ⟨F,0,none⟩=some (.slice p1 b1 c1)
 e1:wr.cell? ⟨F,1,none⟩=some (.slice p2 b2 c2)
 e2:wr.cell? ⟨F,2,none⟩=some x2
 e3:wr.cell? ⟨F,3,none⟩=some x3
 thaw:∀q,wr.frozen? ⟨F,q,none⟩=false
 bel:Below F w6 wr
 lt:F<wr.heap.size
 le:F=w6.heap.size
 o1:wr.ownsRow (F+1) 69 1 (.slice p1 b1 c1) b1 ((List.range b1).map U)
 o2:wr.ownsRow (F+1) 4 1 (.slice p2 b2 c2) b2 ((List.range b2).map V)
 dj:(Value.slice p1 b1 c1).ownBlock=none\/(Value.slice p1 b1 c1).ownBlock≠(Value.slice p2 b2 c2).ownBlock
structure Ck(w:World)(B n:Nat)(U:Nat->Value)(Pr:Nat->List Int)(V:Nat->Bool)(P:List Int)(Od:List Nat)(g1 c1 g2 c2 g3 g4 c4:Nat):Prop where
 len:P.length=n
 o1:w.ownsRow B 69 1 (.slice (some ⟨g1,0,none⟩) n c1) n ((List.range n).map U)
 o2:w.ownsRow B 4 1 (.slice (some ⟨g2,0,none⟩) n c2) n ((List.range n).map λz=>.bool (V z))
 o3:w.rowIs g3 2 n λz=>.int .i64 (P.getD z 0)
 o4:w.ownsRow B 2 1 (.slice (some ⟨g4,0,none⟩) Od.length c4) Od.length (Je Od)
 rows:∀i,i<n->w.ownsRow B 2 1 (U i) (Pr i).length ((Pr i).map (Value.int .i64))
 rdj:∀i j,i<n->j<n->i≠j->(U i).ownBlock=none\/(U i).ownBlock≠(U j).ownBlock
 gs:B<=g3/\g1≠g2/\g1≠g3/\g1≠g4/\g2≠g3/\g2≠g4/\g3≠g4
 o:∀i,i<n->∀k,(U i).ownBlock=some k->k≠g1/\k≠g2/\k≠g3/\k≠g4
theorem jy{w d:World}{B a t s n:Nat}{v:Value}{b:List Value}(i:w.ownsRow B t s v n b)(l:a<=B)(p:∀k,v.ownBlock=some k->d.heap[k]?=w.heap[k]?):d.ownsRow a t s v n b:=by
 obtain⟨c,j|⟨g,f,h,e,m,o,q⟩⟩:=i;·exact⟨c,bC j⟩
 exact⟨c,aZ ⟨g,f,h,e,aJ l m,(p g<|by rw[e];rfl).trans o,q⟩⟩
theorem Fi{w:World}{R F t:Nat}{i:Nat->Value}(l:w.rowIs R t 4 i)(m:R≠F)(x c d f g:Value)(a:World)(e:a=((((w.setCell ⟨F,3,none⟩ x).setCell ⟨R,0,none⟩ c).setCell ⟨R,1,none⟩ d).setCell ⟨R,2,none⟩ f).setCell ⟨R,3,none⟩ g) :
 a.cell? ⟨R,0,none⟩=some c/\a.cell? ⟨R,1,none⟩=some d/\a.cell? ⟨R,2,none⟩=some f/\a.cell? ⟨R,3,none⟩=some g/\(∀k,k≠F->k≠R->a.heap[k]?=w.heap[k]?)/\a.heap.size=w.heap.size/\a.os=w.os/\a.tape=w.tape/\a.output=w.output:=by
 have h:=((((l.setOther (a:=(Hk F 3)) m x).set 0 c).set 1 d).set 2 f).set 3 g;rw[<-e]at h;refine⟨?_,?_,?_,?_,λk j b=>?_,?_,?_,?_,?_⟩;·rw[h.cell vZ];simp
 .rw[h.cell vZ];simp
 .rw[h.cell vZ];simp
 .rw[h.cell vZ];simp
 .rw[e,Below.heap_setCell _ _ _ _ b,Below.heap_setCell _ _ _ _ b,Below.heap_setCell _ _ _ _ b,Below.heap_setCell _ _ _ _ b,Below.heap_setCell _ _ _ _ j]
 .rw[e];simp[World.setCell]
 .rw[e];simp[World.setCell]
 .rw[e];simp[World.setCell]
 rw[e];simp[World.setCell]
section
variable {w6 wr wr': World} {F: Nat} {x2 x3: Value} {U V: Nat -> Value} {b1: Nat} {p1: Option Addr} {c1 b2: Nat} {p2: Option Addr} {c2: Nat}
theorem LX.below(h:LX w6 wr F x2 x3 U V b1 p1 c1 b2 p2 c2)(k:Below wr.heap.size wr wr'):LX w6 wr' F x2 x3 U V b1 p1 c1 b2 p2 c2:=by
 have c:=k.block F h.lt;have a:∀q,wr'.cell? (Hk F q)=wr.cell? (Hk F q):=λq=>bZ c
 have own:∀{t v n b},wr.ownsRow (F+1) t 1 v n b->wr'.ownsRow (F+1) t 1 v n b:=λ{t v n b} e=>by
  refine e.kept (row:=none) ⟨k.os,k.tape,k.output,k.size,λj d _=>k.block j d⟩ ?_;cases v.ownBlock with
  |none=>exact bC rfl
  |some j=>exact aZ sP
 exact⟨(a 0).trans h.e0,(a 1).trans h.e1,(a 2).trans h.e2,(a 3).trans h.e3,λq=>(bJ c).trans (h.thaw q),h.bel.trans<|k.mono (dU h.lt),aX h.lt k.size,h.le,own h.o1,own h.o2,h.dj⟩
theorem qe{w:World}{B t s n:Nat}{v:Value}{a:List Value}(h:w.ownsRow B t s v n a){k:Nat}(b:w.heap.size<=k):v.ownBlock=none\/v.ownBlock≠some k:=by
 by_cases e:v.ownBlock=some k;·have:=(h.lt k e).2;omega
 exact aZ e
theorem Da{a b:Option Nat}(h:a=none\/a≠b):b=none\/b≠a:=by
 rcases h with h|h
 .subst h;cases b with
  |none=>exact bC rfl
  |some k=>exact aZ sP
 exact aZ λe=>h e.symm
theorem qQ{w:World}{B t s n:Nat}{v:Value}{a:List Value}(h:w.ownsRow B t s v n a):w.drew.ownsRow B t s v n a:=h
theorem pZ{a:Type}(f:Nat->a)(b:Nat):(List.range<|b+1).map f=(List.range b).map f++[f b]:=by rw[dN,bG];rfl
theorem LX.app1{a:World}{g:Obj}{f:Option Addr}{c:Nat}(h:LX w6 wr F x2 x3 U V b1 p1 c1 b2 p2 c2)(b:(wr.alloc g).grownBy a (Value.slice p1 b1 c1).ownBlock)(s:a.ownsRow (F+1) 69 1 (.slice f (b1+1) c) (b1+1) ((List.range b1).map U++[U b1]))(p:(Value.slice f (b1+1) c).ownBlock=(Value.slice p1 b1 c1).ownBlock\/(Value.slice f (b1+1) c).ownBlock=some (wr.heap.size+1)) :
 LX w6 (a.setCell ⟨F,0,none⟩ (.slice f (b1+1) c)) F x2 x3 U V (b1+1) f c b2 p2 c2/\(∀q,a.cell? ⟨F,q,none⟩=wr.cell? ⟨F,q,none⟩)/\(∀q,a.frozen? ⟨F,q,none⟩=false)/\Below F wr a:=by
 have r:=h.lt;have ha:∀k,k<wr.heap.size->(wr.alloc g).heap[k]?=wr.heap[k]?:=λk j=>Below.heap_alloc _ _ _ j;have u:(wr.alloc g).heap.size=wr.heap.size+1:=aO _ _;have t:=b.size;have o:∀k,k<=F->some k≠(Value.slice p1 b1 c1).ownBlock:=λk j e=>by have:=(h.o1.lt k e.symm).1;omega
 have m:=(b.block F oM<|o _ (aA _)).trans (ha _ r);have d:∀q,a.cell? (Hk F q)=wr.cell? (Hk F q):=λq=>bZ m;have l:=λq=>(bJ m).trans (h.thaw q);have n:Below F wr a:=⟨b.os,b.tape,b.output,oM,λk j=>(b.block k oM<|o k oM).trans (ha k oM)⟩;refine⟨⟨fQ _ _ _<|(d 0).trans h.e0,(XL _ _ oM _).trans ((d 1).trans h.e1),(XL _ _ oM _).trans ((d 2).trans h.e2),(XL _ _ oM _).trans ((d 3).trans h.e3),λq=>by rw[eX];exact l q,(h.bel.trans n).setCell (p:=Hk F 0) (aA _) _,by rw[Xd];omega,h.le,?_,?_,?_⟩,d,l,n⟩
 .rw[pZ];exact ownsRow_setCell_below s (by show F<F+1;omega) _
 .exact ownsRow_setCell_below ((h.o2.alloc g).kept b (Da h.dj)) (by show F<F+1;omega) _
 rcases p with e|e;·rw[e];exact h.dj
 rcases qe h.o2 (k:=wr.heap.size+1) oM with i|i;·exact aZ<|by rw[e,i];simp
 exact aZ<|by rw[e];exact λk=>i k.symm
theorem LX.app2{a:World}{g:Obj}{f:Option Addr}{c:Nat}(h:LX w6 wr F x2 x3 U V b1 p1 c1 b2 p2 c2)(b:(wr.alloc g).grownBy a (Value.slice p2 b2 c2).ownBlock)(s:a.ownsRow (F+1) 4 1 (.slice f (b2+1) c) (b2+1) ((List.range b2).map V++[V b2]))(p:(Value.slice f (b2+1) c).ownBlock=(Value.slice p2 b2 c2).ownBlock\/(Value.slice f (b2+1) c).ownBlock=some (wr.heap.size+1)) :
 LX w6 (a.setCell ⟨F,1,none⟩ (.slice f (b2+1) c)) F x2 x3 U V b1 p1 c1 (b2+1) f c/\(∀q,a.cell? ⟨F,q,none⟩=wr.cell? ⟨F,q,none⟩)/\(∀q,a.frozen? ⟨F,q,none⟩=false)/\Below F wr a:=by
 have r:=h.lt;have ha:∀k,k<wr.heap.size->(wr.alloc g).heap[k]?=wr.heap[k]?:=λk j=>Below.heap_alloc _ _ _ j;have u:(wr.alloc g).heap.size=wr.heap.size+1:=aO _ _;have t:=b.size;have o:∀k,k<=F->some k≠(Value.slice p2 b2 c2).ownBlock:=λk j e=>by have:=(h.o2.lt k e.symm).1;omega
 have m:=(b.block F oM<|o _ (aA _)).trans (ha _ r);have d:∀q,a.cell? (Hk F q)=wr.cell? (Hk F q):=λq=>bZ m;have l:=λq=>(bJ m).trans (h.thaw q);have n:Below F wr a:=⟨b.os,b.tape,b.output,oM,λk j=>(b.block k oM<|o k oM).trans (ha k oM)⟩;refine⟨⟨(XL _ _ oM _).trans ((d 0).trans h.e0),fQ _ _ _<|(d 1).trans h.e1,(XL _ _ oM _).trans ((d 2).trans h.e2),(XL _ _ oM _).trans ((d 3).trans h.e3),λq=>by rw[eX];exact l q,(h.bel.trans n).setCell (p:=Hk F 1) (aA _) _,by rw[Xd];omega,h.le,?_,?_,?_⟩,d,l,n⟩;·exact ownsRow_setCell_below ((h.o1.alloc g).kept b h.dj) (by show F<F+1;omega) _
 .rw[pZ];exact ownsRow_setCell_below s (by show F<F+1;omega) _
 rcases p with e|e;·rw[e];exact h.dj
 rcases qe h.o1 (k:=wr.heap.size+1) oM with i|i;·exact bC i
 exact aZ<|by rw[e];exact i
end
end
section
section
variable {w1 w2 wr wr': World} {U V: Nat -> Value} {Pr: Nat -> List Int} {bp b1: Nat} {p1: Option Addr} {c1 b2: Nat} {p2: Option Addr} {c2: Nat}
end
theorem UF.ex{a:List Xe}(h:UF a):∀b,b<a.length->(∃d,Ll (X8 a) d b)\/∀c,JO (X8 a) c b->c=b:=λb e=>by
 classical
 have f:∀b,b<a.length->∀x,x<a.length->(Xh (C3 (λ_=>0) ((List.range a.length).filter λx=>decide (Av (X8 a) x b))) x=true↔Av (X8 a) x b):=λb _ x g=>by
  rw[YR,Z3,jU,bD,fG,bE,bD];exact⟨λq=>q.2,λq=>⟨g,q⟩⟩
 have:=UR h.top.2.2.1 h.top.1 h.re h.top.2.2.2 (Ws:=λb=>C3 (λ_=>0) ((List.range a.length).filter λx=>decide (Av (X8 a) x b))) f;rcases this.get b e with⟨d,ha,_⟩|⟨q,_⟩;·exact bC ⟨d,ha⟩
 exact aZ q
theorem UF.model{a:List Xe}(h:UF a):YX (X8 a) a.length ((List.range a.length).map (G9<|(List.range a.length).map (Zq (X8 a) a.length))):=Wf h.re h.ex
end
end Go.Proofs.YtffcajcgkblkoaaGreatDoor
