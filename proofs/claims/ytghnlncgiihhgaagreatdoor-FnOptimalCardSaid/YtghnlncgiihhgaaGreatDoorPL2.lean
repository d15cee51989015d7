import Derived.Test.YtghnlncgiihhgaaGreatDoorMA0
namespace Go.Proofs.YtghnlncgiihhgaaGreatDoor
set_option maxHeartbeats 4000000
set_option maxRecDepth 100000
open Go.RowKit Go.Shelf Go.Proofs.Tryz
variable{n m k B:Nat}{d:Nat->Prop}{w v:World}{q:Xe}
section
attribute [local go_sem] Oper.semAt_some
structure UI(x:Xe)(L B Bx n₀ n₁:Nat)(V:World):Prop where
 op:Yy V
 ter:Yb V
 blk:Tk V L B Bx 0 x
 lt:Bx<n₁
 le:B<=n₀
 g1:0 < n₀
 g2:1 < n₀
 nn:n₀<=n₁
theorem UI.same{Bx:Nat}(h:UI q n m Bx k B w)(e:∀a,a<B->v.heap[a]?=w.heap[a]?)(b:w.heap.size<=v.heap.size):UI q n m Bx k B v :=
 ⟨h.op.of_block (e _ (aX h.g1 h.nn)) b,h.ter.of_block (e _ (aX h.g2 h.nn)) b,h.blk.keepS (fun a _ c=>e a (aX (aX c h.le) h.nn)) (e _ h.lt),h.lt,h.le,h.g1,h.g2,h.nn⟩
theorem UI.below{Bx:Nat}(h:UI q n m Bx k B w)(a:Below w.heap.size w v)(c:B<=w.heap.size):UI q n m Bx k B v:=h.same (fun i b=>a.block i oM) a.size
theorem UI.kp{Bx:Nat}(h:UI q n m Bx k B w)(a:Zf k d w v)(f:∀a,n<=a->a<m->¬d a)(l:¬d Bx)(g:¬d 0)(j:¬d 1):UI q n m Bx k B v:=by
 have o:v.heap[Bx]?=w.heap[Bx]?:=by
  obtain⟨s,t,p,r,c,_⟩:=h.blk;exact a.block c l
 exact⟨h.op.of_block (a.low _ h.g1 g) a.size,h.ter.of_block (a.low _ h.g2 j) a.size,h.blk.keepS (fun i e b=>a.low i (aX b h.le) (f i e b)) o,h.lt,h.le,h.g1,h.g2,h.nn⟩
end
section
variable {F : Fence} {n : Nat} {P : Program} {α : Type}
theorem Ze.keepsF{W V:World}{D:Nat}{r:Loop}(h:Ze W D r)(k:KeepsFrom D W V):Ze V D r:=⟨k.same _ _ oM h.1 rfl,k.same _ _ (aA _) h.2 rfl⟩
theorem JE{A V:World}{B a:Nat}(h:KeepsFrom B A V)(e:B<=a):KeepsFrom a A V:=⟨h.size,fun k o d b c=>h.same k o oM b c⟩
end
section
variable {F : Fence} {n : Nat} {P : Program} {α : Type}
def co(F:Fence)(n:Nat)(P:Program)(j:Nat)(k:Array Value)(i:Nat->α->Array Value)(h:Nat->α->World->Prop)(d:World->World->Prop)(S Sp:List α->Prop)(N:Nat)(turn m:Prop)(w:World):Prop :=
 ∀(l:Nat)(J:Nat->List α->World->Prop)(c:List α->World->Prop)(W:World),Below w.heap.size w W->l<W.heap.size->(∀z,OwnFrom W.heap.size (J z))->OwnFrom W.heap.size c->(turn->∀z s V a,W.heap.size<=z->J z s V->V.grownBy a (some z)->J z s a) ->
  (m->(∀z g s V a,W.heap.size<=g->J z s V->Below W.heap.size V a->J g s a)/\∀s V a,c s V->Below W.heap.size V a->c s a) ->
  (∀z b x V,W.heap.size<=z->J z b V->h z x V->b.length<N->YieldAt F (n-1) P l (i z x) V fun e a=>(e=.returned (.bool true)/\J z (b++[x]) a/\d V a/\KeepsFrom W.heap.size V a)\/(e=.returned (.bool false)/\c (b++[x]) a/\d V a/\KeepsFrom W.heap.size V a)) ->
  (∀z V,W.heap.size<=z->z<V.heap.size->Below W.heap.size W V->J z [] V)->CallsIn F n P j (#[.func (.yield l) #[] #[]]++k) W fun e V=>(∃v,e=.returned v)/\((∃z f,W.heap.size<=z/\S f/\J z f V)\/∃b,Sp b/\c b V)
def ym{α:Type}(B:Nat)(a:World->World->Prop)(I:List α->World->Prop)(c:Code->List α->World->Prop)(b:List α)(W:World):Exit->Act->World->Prop
 | .normal,_,W'=>KeepsFrom B W W'/\a W W'/\I b W'
 | .ret,_,W'=>KeepsFrom B W W'/\a W W'/\c .ret b W'
 | .exit id,_,W'=>KeepsFrom B W W'/\a W W'/\c (.exit id) b W'
 | .goto t,_,W'=>KeepsFrom B W W'/\a W W'/\c (.goto t) b W'
 | .panic _,_,_=>False
 | .outgrown,_,_=>False
theorem dv{ap:Operand}{j:Array Tmp}{l m:Code}{Z:Exit->Act->World->Prop}{e:Act}{w:World}(bs:F.round=none)(h1:1<=n){gf:Nat}{lb:Array Value}(hg:e.eval ap=.func (.func gf) #[] lb)(a7:F.fn gf)(eg:∀args w,(callFunc gf args).run P w=.ok (.enter gf args) w)
 {aa:Nat->α->Array Value} {G:Nat->α->World->Prop} {B:World->World->Prop} {al Sp:List α->Prop} {aj:Nat} {turn a4:Prop} {w0:World} (bt:co F (n-1) P gf lb aa G B al Sp aj turn a4 w0) (a9:∀z,OwnFrom w.heap.size (G z)) (v:∀{A ac ad:World},B A ac->B ac ad->B A ad) (J:∀(W:World)(y:Nat)(o o':Obj),w.heap.size<=y->W.heap[y]?=some o->o.isCells=false->B W (W.putObj y o')) (ax:Below w0.heap.size w0 w) (bp:∀z x,(aa z x).size=j.size)
 (I:Nat->List α->World->Prop) (C:Code->List α->World->Prop) (M:∀z,OwnFrom w.heap.size (I z)) (H:∀c,OwnFrom w.heap.size (C c)) (a8:turn->∀z s V g,w.heap.size<=z->I z s V->V.grownBy g (some z)->I z s g) (a1:a4->(∀z X s V g,w.heap.size<=X->I z s V->Below (w.heap.size+2) V g->I X s g)/\∀c s V g,C c s V->Below (w.heap.size+2) V g->C c s g) (h0:∀z V,w.heap.size<=z->z<V.heap.size->Below w.heap.size w V->I z [] V) (Y:Nat->α->Act->World->Prop) (a5:∀z x u,OwnFrom w.heap.size (fun (_:Unit) W=>Y z x u W))
 (bb:∀(y z:Nat)(d:List α)(x:α)(W:World)(af:Act->World->Prop),w.heap.size<=z->I z d W->G z x W->(∀u q,KeepsOthers W q->B W q->I z d q->G z x q->Y z x u q->af u q)->l.wpIn (F.inRound y) (n-1-1) P (Exit.then af (fun _ _ _=>False)) { tmps:=(j.zip (aa z x)).foldl (fun T (p,a2)=>T.setIfInBounds p a2) e.tmps,defers:=[] } W)
 (bd:∀(y z:Nat)(d:List α)(x:α)(u:Act)(W:World),w.heap.size<=z->w.heap.size<=y->(∃S,W.heap[y]?=some (.loop S))->I z d W->G z x W->Y z x u W->d.length<aj->m.wpIn (F.inRound y) (n-1-1) P (ym w.heap.size B (I z) C (d++[x]) W) u W)
 (bf:∀(D z:Nat)(U:List α)(W:World),w.heap.size<=D->w.heap.size<=z->al U->I z U W->W.heap[D]?=some (.deferred (some []))->Z .normal { e with defers:={ target:=.collected D,args:=#[] } :: e.defers } W)
 (bv:∀(D:Nat)(c:Code)(d:List α)(W:World),w.heap.size<=D->Sp d->C c d W->W.heap[D]?=some (.deferred (some []))->c.wpIn F n P Z { e with defers:={ target:=.collected D,args:=#[] } :: e.defers } W) :
 (Code.rangeFunc ap j l m).wpIn F n P Z e w:=by
 refine wpIn_rangeFunc (fun fn bi=>?_);rw[bs];have a0:=run_enterLoop_outer (P:=P) (w:=w) fn e.tmps j l m;generalize N:(w.alloc (.deferred (some []))).alloc (.loop { state:=.ready,pending:=none,fn,tmps:=e.tmps,params:=j,assign:=l,body:=m,defers:=w.heap.size })=t at a0;have ar:Ze t w.heap.size (KR fn e.tmps j l m w.heap.size .ready none):=by
  subst N;refine⟨?_,?_⟩
  ·have:=World.alloc_heap_new (w.alloc (.deferred (some []))) (.loop (KR fn e.tmps j l m w.heap.size .ready none))
   rwa[aO]at this
  ·exact(Below.heap_alloc _ _ _ sP).trans (World.alloc_heap_new w _)
 have bz:t.heap.size=w.heap.size+2:=by subst N;simp
 have aq:Below w.heap.size w t:=by subst N;exact Xb (Xb (Below.refl w.heap.size w) _) _
 have a6:=ax.trans (aq.mono ax.size);clear N;refine⟨_,_,t,{ target:=.fn (.func gf) lb,args:=#[.func (.yield (w.heap.size+1)) #[] #[]] },t,gf,#[.func (.yield (w.heap.size+1)) #[] #[]]++lb,t,a0,?_,?_,?_,fun _=>h1,?_⟩
 ·simp only[resolve,hg]
  simp[go_sem]
 ·intro f' ay
  simp[Target.leads]at ay;subst ay;exact a7
 ·simp[invoke,go_sem,eg]
 ·have ow:∀{S:Loop}{A V:World}{row:Option Nat},Ze A w.heap.size S->A.grownBy V row->(∀k,row=some k->t.heap.size<=k/\∃o:Obj,A.heap[k]?=some o/\o.isCells=false)->Ze V w.heap.size S:=fun ab k r=>ab.own k (fun z h=>by have:=(r z h).1;omega)
  have fr:∀{A:World}{row:Option Nat},(∀k,row=some k->t.heap.size<=k/\∃o:Obj,A.heap[k]?=some o/\o.isCells=false)->∀k,row=some k->w.heap.size<=k/\∃o:Obj,A.heap[k]?=some o/\o.isCells=false:=fun r k h=>⟨oN ((r k h).1),(r k h).2⟩
  refine(bt (w.heap.size+1) (fun z d W=>I z d W/\Ze W w.heap.size (KR fn e.tmps j l m w.heap.size .ready none)) (fun d W=>∃c,C c d W/\Ze W w.heap.size (KR fn e.tmps j l m w.heap.size .done (some c))) t a6 oM
   (fun z s A V row i k r=>⟨M z s A V row i.1 k (fr r),ow i.2 k r⟩) (fun s A V row i k r=>by obtain⟨c,hc,f⟩:=i;exact⟨c,H c s A V row hc k (fr r),ow f k r⟩) (fun ht z s V g Q i k=>⟨a8 ht z s V g oM i.1 k,i.2.own k (fun r h=>by injection h with h;omega)⟩)
   (fun a=>⟨fun z X s V g Q i k=>⟨(a1 a).1 z X s V g oM i.1 (k.mono oM),⟨(k.block _ oM).trans i.2.1,(k.block _ oM).trans i.2.2⟩⟩,fun s V g i k=>by obtain⟨c,hc,f⟩:=i;exact⟨c,(a1 a).2 c s V g hc (k.mono oM),⟨(k.block _ oM).trans f.1,(k.block _ oM).trans f.2⟩⟩⟩) ?_ (fun z V Q bw hV=>⟨h0 z V oM bw (aq.trans (hV.mono oM)),⟨(hV.block _ oM).trans ar.1,(hV.block _ oM).trans ar.2⟩⟩)).mono ?_
  ·rintro z d x W Q ⟨K,f⟩ bq bn
   have hy:=run_yield (P:=P) f.1 (bp z x);refine⟨_,_,_,_,hy,roundIn_of_wpIn bi (bb _ z d x W _ oM K bq (fun u q az bm bl br bc=>?_))⟩;have E:=f.keeps az;refine⟨_,run_beginRound E.1 rfl,?_⟩;have L:Ze (q.putObj (w.heap.size+1) (.loop (KR fn e.tmps j l m w.heap.size .busy none))) w.heap.size (KR fn e.tmps j l m w.heap.size .busy none):=E.put _;have O:B W (q.putObj (w.heap.size+1) (.loop (KR fn e.tmps j l m w.heap.size .busy none))):=v bm (J _ _ _ _ oM E.1 rfl);refine wpIn_mono (bd _ z d x u _ oM oM ⟨_,L.1⟩ ((M z).putObj _ bl oM E.1 rfl) ((a9 z).putObj _ br oM E.1 rfl) ((a5 z x u).putObj (s:=()) _ bc oM E.1 rfl) bn) ?_;have R:∀{V:World}(o:Obj),KeepsFrom w.heap.size (q.putObj (w.heap.size+1) (.loop (KR fn e.tmps j l m w.heap.size .busy none))) V->KeepsFrom t.heap.size W (V.putObj (w.heap.size+1) o):=fun {V} o ab=>(((az.from _).trans (KeepsFrom.of_grownBy (grownBy_putObj' q _ _) (fun bx h=>by cases h;omega))).trans (JE ab oM)).trans (KeepsFrom.of_grownBy (grownBy_putObj' V _ _) (fun bx h=>by cases h;omega))
   rintro h a3 V b;cases h with
   | normal =>
    have a:=L.keepsF b.1;exact⟨_,_,a.fin none,.inl ⟨rfl,⟨(M z).putObj _ b.2.2 oM a.1 rfl,a.put _⟩,v (v O b.2.1) (J _ _ _ _ oM a.1 rfl),R _ b.1⟩⟩
   | ret =>
    have a:=L.keepsF b.1;exact⟨_,_,a.fin (some .ret),.inr ⟨rfl,⟨.ret,(H _).putObj _ b.2.2 oM a.1 rfl,a.put _⟩,v (v O b.2.1) (J _ _ _ _ oM a.1 rfl),R _ b.1⟩⟩
   | exit id =>
    have a:=L.keepsF b.1;exact⟨_,_,a.fin (some (.exit id)),.inr ⟨rfl,⟨.exit id,(H _).putObj _ b.2.2 oM a.1 rfl,a.put _⟩,v (v O b.2.1) (J _ _ _ _ oM a.1 rfl),R _ b.1⟩⟩
   | goto T =>
    have a:=L.keepsF b.1;exact⟨_,_,a.fin (some (.goto T)),.inr ⟨rfl,⟨.goto T,(H _).putObj _ b.2.2 oM a.1 rfl,a.put _⟩,v (v O b.2.1) (J _ _ _ _ oM a.1 rfl),R _ b.1⟩⟩
   | panic ch=>exact b.elim
   | outgrown=>exact b.elim
  ·rintro h V ⟨⟨a2,rfl⟩,(⟨z,U,Q,hS,K,f⟩ | ⟨d,ba,c,K,f⟩)⟩
   ·exact⟨none,_,run_endLoop f.1 (by simp[KR]),bf _ z U _ (aA _) oM hS ((M z).putObj _ K oM f.1 rfl) (f.put _).2⟩
   ·exact⟨some c,_,run_endLoop f.1 (by simp[KR]),bv _ c d _ (aA _) ba ((H c).putObj _ K oM f.1 rfl) (f.put _).2⟩
end
theorem sZ(n k:Nat):Us n k <+: Us n 0:=by
 unfold Us;rw[show n-0=n by omega,aW (by simp:(List.finRange n).reverse.length<=n)];exact List.take_prefix _ _
theorem zM(F:Fence)(n:Nat)(G:F.fn 119)(U:F.round=none)(Z:1<=n)(m i u C:Nat)(h:Nat->Prop)(p:Option Addr)(a:List Yg)(L B:Nat)(aa:a.length<=1000000)(M:∀k,L<=k->k<B->¬h k)(N:¬h i)(J o:List (Fin a.length)->World->Prop)
 (P:∀(d:List (Fin a.length))(x:Fin a.length)(W:World),J d W->d.length<a.length->YieldAt F (n-1) prog m #[.int .i64 ((x:Nat):Int),cu a[x]] W fun f e =>
  (f=.returned (.bool true)/\J (d++[x]) e/\Zf u h W e)\/(f=.returned (.bool false)/\o (d++[x]) e))
 (W:World) (H:W.cell? ⟨i,0,none⟩=some (.slice p a.length C)) (Q:Hid (YY W L B p a)) (E:J [] W) :
 CallsIn F n prog 119 #[.func (.yield m) #[] #[],.pointer (some ⟨i,0,none⟩)] W fun f e=>(∃V,f=.returned V) /\
  ((∃A,A=Us a.length 0/\J A e)\/(∃d,(∃q,d=Us a.length q)/\o d e)):=by
 refine iD func119 rfl G ?_ U;simp only[ntmps119,xY,Nat.reduceAdd,Nat.reduceSub]
 gi_wp2
 gi_loopw [3] (fun l wr=>∃(k:Nat)(z:Int),k<=a.length/\l=.int .i64 z/\z+1=(k:Int)/\J (Us a.length k) wr/\Zf u h W wr)
  (fun l _=>(intOf l+1).toNat)
 case atStart=>exact⟨a.length,_,aA _,rfl,oM,by rw[Ua];exact E,Zf.refl _⟩
 case round =>
  obtain⟨k,z,S,rfl,ac,r,c⟩:=hrel;have Y:=c.cell H N;cases k with
  | zero =>
   have j:z=-1:=oM;subst j
   gi_wp2
   go_end0
   exact⟨⟨_,rfl⟩,.inl ⟨_,rfl,r⟩⟩
  | succ q =>
   have j:z=(q:Int):=oM;subst j;have hq:q<a.length:=S;obtain⟨b,ad,D,s,R⟩:=Q q hq;subst D;have g:=M b s.1 s.2;obtain⟨v,q1,q2,w,y⟩:=R;have r0:=c.cell v g;have r1:=c.cell q1 g;have r2:=c.cell q2 g;have r3:=c.cell w g;have r4:=c.cell y g;clear v q1 q2 w y;obtain⟨fn,tmps,assign,body,t,O⟩:=P _ ⟨q,hq⟩ wr r (by rw[Vf];omega);have ab:(Instr.yield m #[.int .i64 ((q:Nat):Int),.agg #[.int .i64 a[q].op,.int .i64 a[q].dst,.int .i64 a[q].a,.int .i64 a[q].b,.int .i64 a[q].imm]]).run prog wr=_:=t;clear t
   gi_wp2
   refine O.mono ?_;rintro f X (⟨rfl,I,T⟩ | ⟨rfl,K⟩)
   ·gi_wp2
    go_roundw
    case rel=>exact⟨q,_,oM,rfl,oM,by rw[TJ hq];exact I,c.trans T⟩
    case measure=>simp[intOf]
   ·gi_wp2
    refine cC (gV rfl _ _ _) rfl ?_;exact⟨⟨_,rfl⟩,.inr ⟨_,⟨q,(TJ hq).symm⟩,K⟩⟩
theorem VE(F:Fence)(n:Nat)(j:F.fn 119)(u:F.round=none)(s:1<=n)(b d f:Nat)(c:Nat->Prop)(e:Option Addr)(a:List Yg)(L B:Nat)(t:a.length<=1000000)(D:B<=d)(o:∀k,L<=k->k<B->¬c k)(p:¬c b)(w:World)(E:d<=w.heap.size)(l:b<w.heap.size)
 (r:w.cell? ⟨b,0,none⟩=some (.slice e a.length f)) (m:Hid (YY w L B e a)) :
 SeqStopsK F n prog 119 #[.pointer (some ⟨b,0,none⟩)] (fun x:Fin a.length=>#[Value.int .i64 ((x:Nat):Int),cu a[x]]) (Zf d c) (fun A=>A=Us a.length 0) (fun y=>∃z,y=Us a.length z) a.length w:=fun v J h W g _ _ q i =>
 zM F n j u s v b d f c e a L B t o p J h q W (oB g r l) (Xa (m.keepS (fun k _ C=>g.block k oM))) i
section
attribute [local go_sem] Oper.semAt_some
theorem oK(b6 Bx bt bl:Nat)(P:Nat->Prop)(Pd:Nat × List Int × List Int->Prop)(x:Xe)(L:World)(v:Hid (UI x bt bl Bx b6 L.heap.size L))(hM:Hid (∀k,bt<=k->k<bl->¬P k))(bv:Hid (¬P Bx))(a9:Hid (∀k,L.heap.size<=k->¬P k))(du:Hid (¬P 0))(dw:Hid (¬P 1))(gx:Hid (∀eu∈x.is,1<=eu.op/\eu.op<=13))(hs:1<=x.te.kind/\x.te.kind<=3)(hp:x.is.length<=4000)(hr:x.ps.length<=4000)(cj:Hid (∀q∈plL x,Pd q)) :
 co Fence.wide 7 prog 106 #[.pointer (some ⟨Bx,0,none⟩)] (fun _=>gh) (fun _=>eh L.heap.size Pd) (Zf b6 P) (fun u=>u.map Pl.dat=plL x) (fun u=>u.map Pl.dat <+: plL x) (x.is.length+2) False False L:=by
 intro m J0 Jx W hW hl hJ ds _ _ hY h0;have HY:=Xa (fun h x V=>hY W.heap.size h x V (aA _));have Z:=Xa (hJ W.heap.size);have H0:=Xa (fun V=>h0 W.heap.size V (aA _));have HE:Hid (∀u V,u.map Pl.dat=plL x->J0 W.heap.size u V->(∃ev u,W.heap.size<=ev/\u.map Pl.dat=plL x/\J0 ev u V)\/∃h,h.map Pl.dat <+: plL x/\Jx h V):=Xa (fun u V f i=>.inl ⟨_,u,aA _,f,i⟩);have cc:=Xa ds;clear hY hJ h0 ds;generalize J0 W.heap.size=gb at HY Z H0 HE;have bd:=hW.size;have fz:=Xa (v.below hW (aA _));refine callsIn_of_wp_marks func106 rfl trivial ?_ rfl;simp only[ntmps106,xY,Nat.reduceAdd,Nat.reduceSub]
 gi_wp2
 have c7:Hid (Below W.heap.size W (W.alloc (.cells #[.func (.yield m) #[] #[]] 172))):=Xa (Xb (Below.refl _ _) _);have b5:(W.alloc (.cells #[.func (.yield m) #[] #[]] 172)).cell? ⟨W.heap.size,0,none⟩=some (.func (.yield m) #[] #[]):=by simp[go_sem]
 have h9:(W.alloc (.cells #[.func (.yield m) #[] #[]] 172)).heap.size=W.heap.size+1:=sP;generalize W.alloc _=wa at *;have cf:=Xa (fz.below c7.out bd);obtain⟨pa,pc,I,R,e0,e1,t0,g0,gq⟩:=cf.blk;simp only[aV]at e1 t0;clear e0 g0 gq;obtain⟨k,hk⟩:=bX (show 0<=x.te.kind by omega);have gr:1<=k:=oM;have gs:k<=3:=oM;have HT:Hid (Va wa Bx 2 ⟨(k:Int),x.te.a,x.te.to,x.te.els⟩):=Xa (by rw[<-hk];exact t0);have F:=Xa (tX Bx 2 k x.te.a x.te.to x.te.els wa.drew (Xa HT.out) gr gs (Xa cf.ter));have ep:rdT ⟨(k:Int),x.te.a,x.te.to,x.te.els⟩=rdT x.te:=by unfold rdT;simp only;rw[<-hk]
 rw[ep]at F;have dd:Hid ((rdT x.te).length<=1):=Xa (by unfold rdT;split<;>simp);clear ep t0;obtain⟨c,cw⟩:∃c,c=rdT x.te:=⟨_,rfl⟩;rw[<-cw]at F dd;have ay:=Xa cw;clear cw;have hz:IntKind.i64.wrap ((x.is.length:Int)+1)=(x.is.length:Int)+1:=by rw[dF];omega
 refine Tc (fun B=>B.cell? ⟨W.heap.size,0,none⟩=some (.func (.yield m) #[] #[])/\B.cell? ⟨Bx,1,none⟩=some (.slice I x.is.length R)) (fun hHeld=>?_);refine Yi 0 ?_;refine Yi 1 ?_;refine Yi 2 ?_;refine Yi 3 ?_;refine Yi 4 ?_;refine Yi 5 ?_;refine Yc 6 (fun O hK=>?_);go_simp;refine⟨trivial,(bM.2 F.out).mono ?_⟩;rintro e w5 ⟨v5,rfl,al,el⟩;obtain⟨a5,c5,rfl,ec⟩:=Xk el;have bx:Below wa.heap.size wa w5:=⟨al.os,al.tape,al.output,al.size,al.block⟩;have cz:=Xa bx;have y5:=(XU bx oM).trans b5;have i5:=oB bx e1 (by have:=v.lt;show Bx<_;omega);have e7:Hid (Xf w5 wa.heap.size w5.heap.size a5 c):=Xa ec;have N:=Xa (Yz a5 c.length c5 c wa.heap.size w5.heap.size w5 e7 (Xa rfl) (oN dd.out) (aA _));clear al el ec F bx;refine hK _ _ ⟨y5,i5⟩ (fun hHeld=>?_);clear hK;refine Yc 7 (fun O hK=>?_);go_simp;refine⟨trivial,(bM.2 N.out).mono ?_⟩;rintro e w6 ⟨a6,c6,rfl,ck,ed⟩;have aq:=Xa (Xg cz.out ck);have y6:=(XU aq.out oM).trans b5;have i6:=oB aq e1 (by have:=v.lt;show Bx<_;omega);have e8:=Xa ed;have h7:=aq.size;have h8:=ck.size;have h6:=cz.size;clear ck ed N y5 i5;refine hK _ _ ⟨y6,i6⟩ (fun hHeld=>?_);clear hK;refine Yi 8 ?_;have fx:=Xa (cf.below aq.out oM);have fb:=Xa (H0.out w6 oM (Xg c7.out aq.out));obtain⟨fn,tmps,dn,bo,Q,r⟩:=HY.out [] ⟨x.is.length+1,a6,c6,c,none,0,[]⟩ w6 fb.out ⟨cj.out _ (by show((x.is.length+1:Nat),c,([]:List Int))∈plL x;rw[ay.out];exact cI),e8.mono oM (aA _),fun l hi=>absurd hi sP⟩ sP;have H:(Instr.yield m #[.int .i64 ((x.is.length:Int)+1),.agg #[.slice a6 c.length c6,.slice none 0 0]]).run prog w6=_:=Q;clear Q;refine Yc 9 (fun O hK=>?_);go_simp;refine r.mono ?_;rintro e p (⟨rfl,az,z,b1⟩ | ⟨rfl,az,z,b1⟩);rotate_left
 ·have b9:=Xa az
  have D:=z.cell y6 (a9.out _ bd);have i3:=z.cell i6 bv.out;clear az z b1 H r;refine hK _ _ ⟨D,i3⟩ (fun hHeld=>?_);clear hK hHeld;have hHeld:(fun B:World=>B.cell? ⟨W.heap.size,0,none⟩=some (.func (.yield m) #[] #[])/\B.cell? ⟨Bx,1,none⟩=some (.slice I x.is.length R)) p:=⟨D,i3⟩;refine Yi 10 ?_;refine ZV ?_;clear hHeld y6 i6 b5 e1
  gi_wp2
  exact⟨.tuple #[],gV rfl _ _ _,⟨_,rfl⟩,.inr ⟨_,by show[((x.is.length+1:Nat),c,([]:List Int))] <+: plL x;rw[ay.out];exact⟨_,rfl⟩,b9.out⟩⟩
 have b9:=Xa az;have he:=Xa z;have hd:=Xa b1;have fq:=Xa (fx.kp z hM.out bv.out du.out dw.out);have D:=z.cell y6 (a9.out _ bd);have i3:=z.cell i6 bv.out;have h5:=z.size;clear az z b1 H r;refine hK _ _ ⟨D,i3⟩ (fun hHeld=>?_);clear hK hHeld
 try simp only[xX]
 have hHeld:(fun B:World=>B.cell? ⟨W.heap.size,0,none⟩=some (.func (.yield m) #[] #[])/\B.cell? ⟨Bx,1,none⟩=some (.slice I x.is.length R)) p:=⟨D,i3⟩;refine Yi 10 ?_;refine ZV ?_;clear hHeld y6 i6 b5 e1
 gi_wp2
 refine⟨trivial,(V6 Fence.wide 6 trivial rfl I x.is.length R p).mono ?_⟩;rintro e C ⟨rfl,b4⟩;have w:Below p.heap.size p C:=by rw[b4];exact Xb (Below.refl _ _) _
 have es:C.heap.size=p.heap.size+1:=by rw[b4];simp
 have eq:C.cell? ⟨p.heap.size,0,none⟩=some (.slice I x.is.length R):=by rw[b4];simp[go_sem]
 have dj:=Xa (fq.below w oM);have fa:=Xa (XO Z.out b9.out w);have y4:=(XU w oM).trans D;have ey:=Xa w;have I3:=Xa i3;clear b4 w D i3;have fr:=Xa eq;have hf:=Xa es;have g6:W.heap.size<C.heap.size:=oM;have f7:Hid (p.heap.size<C.heap.size):=Xa oM;have M:Hid (L.heap.size<=C.heap.size):=Xa oM;have ga:=Xa y4;clear eq es y4
 gi_wp2
 have ge:¬P p.heap.size:=a9.out _ oM;refine wpIn_rangeFunc_ownH (F:=Fence.wide) (n:=7) rfl vY (gf:=119) (lb:=#[.pointer (some ⟨p.heap.size,0,none⟩)]) rfl trivial (enters_of func119 vZ rfl) (VE Fence.wide 6 trivial rfl vY p.heap.size b6 R P I x.is bt bl oM v.le hM.out ge C (aJ v.nn M.out) f7.out fr.out (Xa ?inss)) (fun G k=>G.trans k) (fun V S o o' f i g _=>Zf.putObj V S o o' (aJ v.nn (aJ M.out f)) i g) (Below.refl _ _) (fun _=>rfl)
  (fun h V=>∃a:List Pl,a.map Pl.dat=(x.is.length+1,c,[])::h.map (VH x)/\gb a V/\UI x bt bl Bx b6 L.heap.size V/\V.cell? ⟨W.heap.size,0,none⟩=some (.func (.yield m) #[] #[])/\C.heap.size<=V.heap.size)
  (fun ci h V=>ci=.ret/\∃a:List Pl,a.map Pl.dat=(x.is.length+1,c,[])::h.map (VH x)/\Jx a V)
  ?ownI ?ownX ?start
  (fun j a' V=>∃d,a'=⟨#[.func (.yield m) #[] #[],.pointer (some ⟨Bx,0,none⟩),.pointer (some ⟨W.heap.size,0,none⟩),.int .i64 ((j:Nat):Int),.pointer (some ⟨d,0,none⟩),undef,undef,undef,.func (.yield m) #[] #[],.pointer (some ⟨Bx,1,none⟩),.slice I x.is.length R,.int .i64 (x.is.length:Int),.int .i64 ((x.is.length:Int)+1),.pointer (some ⟨Bx,2,none⟩),.slice a5 c.length c5,.slice a6 c.length c6,.agg #[.slice a6 c.length c6,.slice none 0 0],.bool true,.bool false,.pointer (some ⟨Bx,1,none⟩),.slice I x.is.length R,.func (.func 119) #[] #[.pointer (some ⟨p.heap.size,0,none⟩)],.int .i64 ((j:Nat):Int),cu x.is[j],undef,undef,undef,undef,undef,undef,undef,undef,undef,undef,undef,undef,undef,undef,undef,undef,undef,undef,undef,undef,undef,undef,undef,undef,undef,undef,undef,undef,undef],[]⟩/\C.heap.size<=d/\Jk V d 0 x.is[j]) ?ownA ?assign ?body ?done ?stop
 case inss =>
  obtain⟨g8,g9,et,g7,_,f1,_,_,f4⟩:=dj.blk;simp only[aV]at f1;have gp:et=I:=by
   have g:=oB ey I3.out (by show Bx<_;have:=v.lt;omega);rw[f1]at g;injection g with g;injection g
  rw[<-gp];exact f4
 case ownI =>
  rintro h U V row ⟨a,n,J,A,t,p5⟩ k q;have d3:∀l,l<C.heap.size->V.heap[l]?=U.heap[l]?:=fun l hi=>k.block l oM (fun e=>by have:=(q l e.symm).1;omega)
  refine⟨a,n,Z.out a U V row J k (fun bf e=>⟨oN ((q bf e).1),(q bf e).2⟩),A.same (fun l hi=>d3 l (aX hi M.out)) k.size,?_,aJ p5 k.size⟩;exact(Xc (d3 _ g6)).trans t
 case ownX =>
  rintro ci h U V row ⟨rfl,a,p0,n⟩ k q;exact⟨rfl,a,p0,cc.out a U V row n k (fun bf e=>⟨oN ((q bf e).1),(q bf e).2⟩)⟩
 case start=>exact⟨[⟨x.is.length+1,a6,c6,c,none,0,[]⟩],rfl,fa.out,dj.out,ga.out,aA _⟩
 case ownA =>
  rintro j a' _ U V row ⟨d,e,d2,y⟩ k q;have gg:V.heap[d]?=U.heap[d]?:=by
   obtain⟨o,f,i⟩:=Yn y.1;refine k.block d (aS.1 f).1 (fun e=>?_);obtain⟨_,o2,g,h4⟩:=q d e.symm;rw[show U.heap[d]?=some o from f]at g;injection g with g;subst g;rw[i]at h4;cases h4
  have s:=fun o=>Xc (o:=o) gg
  exact⟨d,e,d2,(s _).trans y.1,(s _).trans y.2.1,(s _).trans y.2.2.1,(s _).trans y.2.2.2.1,(s _).trans y.2.2.2.2⟩
 case assign =>
  intro S h j V O hI hK;have HI:=Xa hI;have fc:=Xa hK;clear hI hK;unfold cu
  gi_wp2
  have aa:Below V.heap.size V (V.alloc (.cells #[.int .i64 x.is[j].op,.int .i64 x.is[j].dst,.int .i64 x.is[j].a,.int .i64 x.is[j].b,.int .i64 x.is[j].imm] 98)):=Xb (Below.refl _ _) _;obtain⟨a,n,J,A,t,p5⟩:=HI.out;refine fc.out _ _ ⟨aa.size,fun k o _ f _=>(aa.block k (aS.1 f).1).trans f⟩ (Zf.of_below aa (oP M.out v.nn)) ⟨a,n,XO Z.out J aa,A.below aa (oN M.out),oB aa t oM,aJ p5 aa.size⟩ ⟨V.heap.size,rfl,p5,?_⟩;exact⟨by simp[go_sem],by simp[go_sem],by simp[go_sem],by simp[go_sem],by simp[go_sem]⟩
 case body =>
  rintro S h j a' V hn _ ⟨a,n,J,A,t,p5⟩ ⟨d,rfl,d2,y⟩ ho;have E:=Xa n;have cd:=Xa J;have br:=Xa A;have gv:=gx.out x.is[j] (aH _);obtain⟨kk,b2⟩:=bX (show 0<=x.is[j].op by omega);have ef:1<=kk:=oM;have eg:kk<=13:=oM;have gf:d<V.heap.size:=aI V _ y.1;have ad:Hid (Jk V d 0 ⟨(kk:Int),x.is[j].dst,x.is[j].a,x.is[j].b,x.is[j].imm⟩):=Xa (by rw[<-b2];exact y);have em:rdI ⟨(kk:Int),x.is[j].dst,x.is[j].a,x.is[j].b,x.is[j].imm⟩=rdI x.is[j]:=by rw[<-b2]
  have er:writesI ⟨(kk:Int),x.is[j].dst,x.is[j].a,x.is[j].b,x.is[j].imm⟩=writesI x.is[j]:=by rw[<-b2]
  have F:=Xa (tW d kk x.is[j].dst x.is[j].a x.is[j].b x.is[j].imm V.drew (Xa ad.out) ef eg (Xa br.op));have bs:Hid (∀V',Below V.heap.size V V'->_):=Xa (fun V' (hV:Below V.heap.size V V')=>UH d kk x.is[j].dst x.is[j].a x.is[j].b x.is[j].imm V' (Xa (by
   have s:=fun o=>hV.cell (p:=⟨d,o,none⟩) gf
   exact⟨(s _).trans ad.1,(s _).trans ad.2.1,(s _).trans ad.2.2.1,(s _).trans ad.2.2.2.1,(s _).trans ad.2.2.2.2⟩)) ef eg (Xa (br.below hV (oN M.out)).op))
  rw[em]at F;simp only[er]at bs;obtain⟨T,b3⟩:∃K,K=rdI x.is[j]:=⟨_,rfl⟩;obtain⟨di,b0⟩:∃K,K=writesI x.is[j]:=⟨_,rfl⟩;rw[<-b3]at F;simp only[<-b0]at bs;have ch:=Xa b3;have b7:=Xa b0;have hw:T.length<=2:=by rw[b3];exact ew _
  have hh:di.length<=1:=by rw[b0];unfold writesI;split<;>simp
  clear b3 b0 em er y n J A b2 gv;have ce:Hid (a.length<x.is.length+1):=Xa (by
   have G:=fI List.length E.out;simp at G;omega)
  have hx:IntKind.i64.wrap (((j:Nat):Int)+1)=((j:Nat):Int)+1:=by have:=j.isLt;rw[dF];omega
  gi_wp2
  refine Tc (fun B=>B.cell? ⟨W.heap.size,0,none⟩=some (.func (.yield m) #[] #[])) (fun hHeld=>?_);refine Yi 0 ?_;refine Yi 1 ?_;refine Yi 2 ?_;refine Yc 3 (fun O hK=>?_);go_simp;refine⟨trivial,(CallsIn.inRound S (bM.2 F.out)).mono ?_⟩;rintro e V1 ⟨v1,rfl,aj,ej⟩;obtain⟨a1,c1,rfl,d4⟩:=Xk ej;have ac:Hid (Below V.heap.size V V1):=Xa ⟨aj.os,aj.tape,aj.output,aj.size,aj.block⟩;have c9:Hid (Xf V1 V.heap.size V1.heap.size a1 T):=Xa d4;have y1:=(XU ac.out oM).trans t;have N:=Xa (Yz a1 T.length c1 T V.heap.size V1.heap.size V1 c9 (Xa rfl) oM (aA _));clear aj ej d4 F;refine hK _ _ y1 (fun hHeld=>?_);clear hK;refine Yc 4 (fun O hK=>?_);go_simp;refine⟨trivial,(CallsIn.inRound S (bM.2 N.out)).mono ?_⟩;rintro e V2 ⟨a2,c2,rfl,d0,d5⟩;have bn:=Xa (Xg ac.out d0);have da:=Xa (d5.mono ac.size (aA _));have y2:=(XU bn.out oM).trans t;have dl:=Xa (bs.out V2 bn.out);clear d0 d5 N bs y1 c9 ac;refine hK _ _ y2 (fun hHeld=>?_);clear hK;refine Yc 5 (fun O hK=>?_);go_simp;refine⟨trivial,(CallsIn.inRound S (bM.2 dl.out)).mono ?_⟩;rintro e V3 ⟨v3,rfl,bw,ek⟩;obtain⟨a3,c3,rfl,ea⟩:=Xk ek;have db:=Xa ((da.keep bw).mono (aA _) bw.size);have bp:=Xa (Xg bn.out bw);have dc:=Xa ea;have D:=(XU bp.out oM).trans t;have N:=Xa (Yz a3 di.length c3 di V2.heap.size V3.heap.size V3 dc (Xa rfl) oM (aA _));clear bw ek ea dl y2 bn da dc;refine hK _ _ D (fun hHeld=>?_);clear hK;refine Yc 6 (fun O hK=>?_);go_simp;refine⟨trivial,(CallsIn.inRound S (bM.2 N.out)).mono ?_⟩;rintro e V4 ⟨a4,c4,rfl,w,eb⟩;have ez:=Xa ((db.keep w).mono (aA _) w.size);have Y:=Xa (Xg bp.out w);have e6:=Xa (eb.mono bp.size (aA _));have y4:=(XU Y.out oM).trans t;clear w eb N D bp db;refine hK _ _ y4 (fun hHeld=>?_);clear hK;refine Yi 7 ?_;have af:L.heap.size<=V.heap.size:=oN M.out
  have fs:=Xa (br.below Y.out af);obtain⟨fn,tmps,dn,bo,Q,r⟩:=KY (l':=S) (m':=4) (HY.out a ⟨(j:Nat)+1,a2,c2,T,a4,c4,di⟩ V4 (XO Z.out cd.out Y.out) ⟨cj.out _ (by have G:=nW x j;unfold VH at G;rw[<-ch.out,<-b7.out]at G;exact G),ez.mono af (aA _),e6.mono af (aA _)⟩ (oN ce.out));have H:(Instr.yield m #[.int .i64 (((j:Nat):Int)+1),.agg #[.slice a2 T.length c2,.slice a4 di.length c4]]).run prog V4=_:=Q;clear Q;refine Yc 8 (fun O hK=>?_);go_simp;refine r.mono ?_;rintro e V5 (⟨rfl,a0,ab,ba⟩ | ⟨rfl,a0,ab,ba⟩);rotate_left
  ·have y5:=ab.cell y4 (a9.out _ bd)
   have ca:=Xa a0;have bq:=Xa ab;have b8:=Xa ba;clear a0 ab ba H r;refine hK _ _ y5 (fun hHeld=>?_);clear hK;refine Yi 9 ?_;refine ZV ?_
   gi_wp2
   have bc:=(Zf.of_below Y.out (aJ v.nn af)).trans bq.out;refine⟨⟨bc.size,fun k o f i g=>b8.same k o oM ((Y.block k (aS.1 i).1).trans i) g⟩,rfl,a++[⟨(j:Nat)+1,a2,c2,T,a4,c4,di⟩],?_,ca.out⟩;rw[bG,E.out,bG];show _=(x.is.length+1,c,[])::(h.map (VH x)++[VH x j]);rw[<-cW];congr 1;unfold VH Pl.dat;simp only[eH,fZ];rw[ch.out,b7.out]
  have y5:=ab.cell y4 (a9.out _ bd);have ca:=Xa a0;have bq:=Xa ab;have b8:=Xa ba;clear a0 ab ba H r;refine hK _ _ y5 (fun hHeld=>?_);clear hK
  try simp only[xX]
  refine Yi 9 ?_;refine ZV ?_
  gi_wp2
  have bc:=(Zf.of_below Y.out (aJ v.nn af)).trans bq.out;refine⟨⟨bc.size,fun k o f i g=>b8.same k o oM ((Y.block k (aS.1 i).1).trans i) g⟩,bc,a++[⟨(j:Nat)+1,a2,c2,T,a4,c4,di⟩],?_,ca.out,fs.kp bq.out hM.out bv.out du.out dw.out,y5,aJ p5 bc.size⟩;rw[bG,E.out,bG];show _=(x.is.length+1,c,[])::(h.map (VH x)++[VH x j]);rw[<-cW];congr 1;unfold VH Pl.dat;simp only[eH,fZ];rw[ch.out,b7.out]
 case done =>
  rintro bm ys V hD rfl ⟨a,n,J,A,t,p5⟩ a8;have E:=Xa n;have cd:=Xa J;have br:=Xa A;have ax:=Xa a8;have fi:=Xa t;obtain⟨g8,g9,et,g7,f0,f1,_,f3,_⟩:=A.blk;have fl:=Xa f3;have gd:Bx<V.heap.size:=aI V _ f0;have gc:=fun o=>(bP V o ⟨Bx,0,none⟩ gd).trans f0
  have gz:W.heap.size<V.heap.size:=oM;clear f1 f3 n J A a8 f0 t;obtain⟨i0,gl,g3,g4,g5⟩:=fX Tryz.infoVn
  gi_wp2
  clear gc
  gi_loopw [38] (fun l wr=>∃k:Nat,k<=x.ps.length/\l=.int .i64 k/\Hid (Below V.heap.size V wr)/\wr.cell? ⟨V.heap.size,0,none⟩=some (.slice none 0 0)/\wr.frozen? ⟨V.heap.size,1,none⟩=false/\∃K,wr.cell? ⟨V.heap.size,1,none⟩=some K/\Hid (wr.ownsRow (V.heap.size+1) 42 1 K k (((x.ps.map Ph.dst).take k).map (Value.int .i64)))) (fun l _=>x.ps.length-(intOf l).toNat)
  case atStart=>exact⟨0,aN _,rfl,Xa (Xb (Below.refl _ _) _),by simp[go_sem],by simp[go_sem],.slice none 0 0,by simp[go_sem],Xa (dA _ _ _ _)⟩
  case round =>
   obtain⟨k,hm,rfl,X,c0,z1,K,c1,HO⟩:=hrel;by_cases ei:k<x.ps.length
   ·obtain⟨b,o,rfl,hg,ap,cp,f,i,_⟩:=fl.out k ei
    have d1:b<V.heap.size:=aI V _ f;have g1:=oB X f d1;have g2:=oB X i d1;have HN:Hid ((x.ps.map Ph.dst).take (k+1)=(x.ps.map Ph.dst).take k++[x.ps[k].dst]):=Xa (by rw[X7 _ _ (by simpa using ei)];simp);have ct:V.heap.size<wr.heap.size:=aI wr _ c0;clear f i;generalize x.ps[k]=ph at *;generalize (x.ps.map Ph.dst).take k=dk at *
    gi_wp2_with (gi_at_builtin;refine wpListIn_append_own _ rfl _ _ 137 rfl (V.heap.size+1) 42 i0 (.int .i64 0) 1 8 underlying137 gl g3 g4 g5 rfl vY _ _ _ rfl ((HO.alloc _).alloc _) ⟨wr.heap.size+1,0,none⟩ 1 1 [.int .i64 ph.dst] rfl rfl ?c1 ?c2 ?c3 ?c4 ?c5 ?_)
    case c1 =>
     intro j K hj
     match j,hj with
     | 0,hj=>simp at hj;subst hj;simp[Addr.add,go_sem]
    case c2=>intro K hu;simp at hu;subst hu;rfl
    case c3=>unfold maxLen;omega
    case c4=>omega
    case c5=>simp;omega
    intro v1 w1 cs cl _;obtain⟨av,cv,hv,_⟩:=Xk (xs:=dk++[ph.dst]) (by rw[Yl];exact cs);have HV:=Xa hv;have df:=Xa cs;have ac:=Xa (Xy (Xb (Xb X.out _) _) cl ((HO.alloc _).alloc _) oM (by have:=X.size;simp;omega));have bz:=YJ cl ((HO.alloc _).alloc _) (b:=V.heap.size) oM (by simp;omega);have k0:=(Xc bz).trans (oB (Xb (Xb (Below.refl wr.heap.size wr) _) _) c0 ct);have k1:=(Xc bz).trans (oB (Xb (Xb (Below.refl wr.heap.size wr) _) _) c1 ct);have kz:w1.frozen? ⟨V.heap.size,1,none⟩=false:=by
     rw[bJ (a:=⟨V.heap.size,1,none⟩) bz];exact((Xb (Xb (Below.refl wr.heap.size wr) _) _).frozen (p:=⟨V.heap.size,1,none⟩) ct).trans z1
    clear cs cl bz c0 c1 z1;rw[hv];clear hv
    gi_wp2
    have cx:=HV.out;rw[aQ,bA,bO,aV]at cx;rw[<-cx];clear cx;refine⟨⟨k+1,oM,gM,Xa (ac.setCell (aA _) _),?_,?_,v1,?_,Xa ?_⟩,by simp[intOf];omega⟩
    ·exact(cJ w1 ⟨V.heap.size,1,none⟩ ⟨V.heap.size,0,none⟩ v1 sP).trans k0
    ·exact(eX _ _ _ _).trans kz
    ·exact iL w1 _ v1 (by rw[k1];rfl)
    ·rw[HN.out,Yl]
     exact df.kept (row:=some V.heap.size) ⟨rfl,rfl,rfl,by simp[World.setCell],fun k _ hk=>Below.heap_setCell _ _ _ _ (fun e=>hk (by rw[e]))⟩ (aZ (fun e=>by have:=(df.lt _ e).1;omega))
   ·have gt:k=x.ps.length:=oM
    subst gt;have cr:=HO.out;rw[aW sP]at cr;obtain⟨av,cv,rfl,ee⟩:=Xk cr;have e9:=Xa ee;have af:L.heap.size<=V.heap.size:=oN M.out
    have gi:=(aS.1 ax.out).1;have c8:=Xa ((X.block bm gi).trans ax.out);have yr:=oB X fi.out gz;have ce:Hid (a.length=x.is.length+1):=Xa (by
     have G:=fI List.length E.out;simp[Vf]at G;omega)
    clear cr ee;obtain⟨fn,tmps,dn,bo,Q,r⟩:=HY.out a ⟨0,none,0,[],av,cv,x.ps.map Ph.dst⟩ wr (XO Z.out cd.out X.out) ⟨cj.out _ (l5 x),fun l hi=>absurd hi sP,e9.mono oM (aA _)⟩ (oN ce.out);have H:(Instr.yield m #[.int .i64 0,.agg #[.slice none 0 0,.slice av (x.ps.map Ph.dst).length cv]]).run prog wr=_:=Q;rw[bK]at H c1;clear Q
    gi_wp2
    refine r.mono ?_;rintro e V9 (⟨rfl,a7,cq,bb⟩ | ⟨rfl,a7,cq,bb⟩);rotate_left
    ·have cb:=Xa a7
     have ar:=Xa (bb.same bm _ oM c8.out rfl);clear a7 cq bb H r
     gi_wp2
     refine YK ar.out ⟨.tuple #[],gV rfl _ _ _,⟨_,rfl⟩,.inr ⟨a++[⟨0,none,0,[],av,cv,x.ps.map Ph.dst⟩],?_,cc.putObj _ cb.out oM ar.out rfl⟩⟩;rw[bG,E.out,ay.out];exact mD _
    have cb:=Xa a7;have ar:=Xa (bb.same bm _ oM c8.out rfl);clear a7 cq bb H r
    gi_wp2
    refine YK ar.out ⟨.tuple #[],gV rfl _ _ _,⟨_,rfl⟩,HE.out (a++[⟨0,none,0,[],av,cv,x.ps.map Ph.dst⟩]) _ ?_ (Z.putObj _ cb.out oM ar.out rfl)⟩;rw[bG,E.out,ay.out];rfl
 case stop =>
  rintro bm ci h V hD ⟨q,hq⟩ ⟨rfl,a,p0,n⟩ a8;have fe:=Xa p0;have HQ:=Xa hq;clear p0 hq;have E:=Xa n;have ax:=Xa a8;clear n a8
  gi_wp2
  refine YK ax.out ⟨.tuple #[],gV rfl _ _ _,⟨_,rfl⟩,.inr ⟨a,?_,cc.putObj _ E.out oM ax.out rfl⟩⟩;rw[fe.out,ay.out,HQ.out];obtain⟨hb,ht⟩:=sZ x.is.length q;refine⟨hb.map (VH x)++[(0,[],x.ps.map Ph.dst)],?_⟩;unfold plL;rw[cW,<-cK,<-bG,ht]
end
end Go.Proofs.YtghnlncgiihhgaaGreatDoor
