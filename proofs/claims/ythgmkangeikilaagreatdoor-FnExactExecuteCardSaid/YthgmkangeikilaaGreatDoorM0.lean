import Derived.Test.YthgmkangeikilaaGreatDoorPure
import Derived.RangeFuncNested
import Derived.RangeFuncBound
import Derived.Shelf.RegionOpen
import Derived.LoopNIn
import Derived.LoopIn
import Derived.Lib.ItoaMem
import Derived.Lib.AppendZerosOnto
import Derived.Deep.LoopGhost
import Derived.Laws.CopyOwn
import Derived.Shelf.Bytes.Small
import Derived.Shelf.Lay
import Derived.Lib.SlSplitV
namespace Go.Proofs.YthgmkangeikilaaGreatDoor
set_option maxHeartbeats 4000000
set_option maxRecDepth 100000
open _root_ renaming List.length->J,Nat->N,Option.some->S,Option.none->U,Array.size->Z,rfl->R,Bool.true->So,Bool.false->Sn,Int->I,absurd->Sz,Decidable.decide->Jd,List.range->Rg
open Go renaming World.cell?->E,RowKit.Below->Sw,World.alloc->D,Ending.returned->Rt,IntKind.i64->S6,Obj.cells->Sc,World.ownsRow->Sx,Calls->Sk,RowKit.intOf->JB,results->JC,World.setCell->Se,undef->Su
open Value renaming slice->X,bool->Sb,int->Si,agg->Sa,pointer->Sj,string->Sg,tuple->St
open Go.RowKit Go.Shelf Go.Proofs.Tryz
variable{t T z:I}{n m k B g i j c:N}{w v u:Ub}{a A_:Uj}{p P:Uy}{M:Vp}{h:Vu}{d:Vv}{s S_:Wa}{l L:Wc}{x:Wi}{f F:Wk}{y:Wo}{q:Xe}{R_:Yh}
section
structure ag where
 is:Vr
 te:Yj
def jc(w:Ub)(L B b o:N)(x:ag):Prop :=
 ∃a c,E w ⟨b,o,U⟩=S (X a (J x.1) c)/\Va w b (o+1) x.2/\YY w L B a x.1
def d7(w:Ub)(L B:N)(c:Uy)(a:List ag):Prop :=
 ∀i (h:i<J a),∃b o,c=S ⟨b,o,U⟩/\(L<=b/\b<B)/\jc w L B b (o+i*5) a[i]
variable{w w':Ub}{L B:N}
theorem jc.keepS{b o}{x:ag}(h:jc w L B b o x)(k:YA L B w w')(e:w'.1[b]?=w.1[b]?):jc w' L B b o x:=by let⟨f,g,a,c,d⟩:=h;exact⟨f,g,G (Xc e) a,c.keepS e,d.keepS k⟩
theorem d7.keepS{b}{d:List ag}(h:d7 w L B b d)(k:YA L B w w'):d7 w' L B b d:=λi g=>by let⟨c,o,e,a,f⟩:=h i g;exact⟨c,o,e,a,f.keepS k<|k c a.1 a.2⟩
theorem jc.keep{b o}{x:ag}(h:jc w L B b o x)(k:Sw B w w')(a:b<B):jc w' L B b o x:=h.keepS (ZU k) (k.5 b a)
theorem d7.keep{a}{b:List ag}(h:d7 w L B a b)(k:Sw B w w'):d7 w' L B a b:=h.keepS<|ZU k
theorem jc.mono{b a c o}{x:ag}(h:jc w L B c o x)(l:b<=L)(k:B<=a):jc w b a c o x:=by let⟨g,i,d,e,f⟩:=h;exact⟨g,i,d,e,f.mono l k⟩
theorem d7.mono{b a c}{d:List ag}(h:d7 w L B c d)(l:b<=L)(k:B<=a):d7 w b a c d:=λj i=>by let⟨e,o,f,m,g⟩:=h j i;exact⟨e,o,f,O,g.mono l k⟩
def km(a:List ag):Prop:=∀x∈a,J x.1<=1048576
end
section
variable{F:Fence}{n:N}{P:Yh}{α:Type}
def pp(F:Fence)(n:N)(P:Yh)(h:N)(i:Zh)(g:α->Zh)(f:α->Vy)(d:Ub->Vy)(k:List α->Prop)(m:N)(w:Ub):Prop :=
 ∀(l:N)(j:List α->Vy)(W:Ub),Sw (Z w.1) w W->l<Z W.1->OwnFrom (Z W.1) j ->
  (∀b x V,j b V->f x V->J b<m->YieldAt F (n-1) P l (g x) V λe a=>e=Rt (Sb So)/\j (b++[x]) a/\d V a/\KeepsFrom (Z W.1) V a) ->
  j [] W->CallsIn F n P h (#[.func (.yield l) #[] #[]]++i) W λe V=>(∃v,e=Rt v)/\∃c,k c/\j c V
def KR(fn:FuncId)(f:Zh)(d:Array Tmp)(a b:Code)(g:N)(e:LoopState)(c:Option Code):Loop:={ state:=e,pending:=c,fn,tmps:=f,params:=d,assign:=a,body:=b,defers:=g }
def Ze(W:Ub)(a:N)(r:Loop):Prop:=W.1[a+1]?=S (.loop r)/\W.1[a]?=S (.deferred (S []))
theorem Ze.put{W b r}(h:Ze W b r)(a):Ze (W.putObj (b+1) (.loop a)) b a :=
 ⟨World.putObj_heap_same (aS.1 h.1).1,G (World.putObj_heap_other O) h.2⟩
theorem Ze.own{W V:Ub}{b r}{row:Zm}(h:Ze W b r)(g:W.grownBy V row)(a:∀k,row=S k->b+2<=k):Ze V b r :=
 ⟨G (g.5 _ (aS.1 h.1).1 λe=>by have:=a _ e.symm;omega) h.1,G (g.5 _ (aS.1 h.2).1 λe=>by have:=a _ e.symm;omega) h.2⟩
theorem Ze.keeps{W V:Ub}{a r}(h:Ze W a r)(k:KeepsOthers W V):Ze V a r:=⟨k.2 _ _ h.1 R,k.2 _ _ h.2 R⟩
theorem Ze.fin{W f c e d a b}(h:Ze W f (KR c e d a b f .busy U))(j):(Instr.endRound (f+1) j).run P W=.ok (Sb j.isNone) (W.putObj (f+1) (.loop (KR c e d a b f (if j.isNone then .ready else .done) j))):=run_endRound j h.1
theorem wj{M_:Operand}{c:Array Tmp}{h i:Code}{Q_:Yt}{a:Act}{w:Ub}(bb:F.4=U)(h1:1<=n){gf:N}{lb:Zh}(hg:a.eval M_=.func (.func gf) #[] lb)(aj:F.1 gf)(eg:∀args w,(callFunc gf args).run P w=.ok (.enter gf args) w){L:α->Zh}{u:α->Vy}{l:Ub->Vy}{S_:List α->Prop}{N_:N}{y:Ub}(bc:pp F (n-1) P gf lb L u l S_ N_ y)(ao:OwnFrom (Z w.1) u)(M:∀{p J_ K_:Ub},l p J_->l J_ K_->l p K_)(O_:∀(W:Ub)(m:N)(o o':Obj),Z w.1<=m->W.1[m]?=S o->o.isCells=Sn->l W (W.putObj m o'))(R_:Sw (Z y.1) y w)(a7:∀x,Z (L x)=Z c)(K:List α->Vy)(r:OwnFrom (Z w.1) K)(h0:K [] w)(C:α->Tf)(ad:∀x g,OwnFrom (Z w.1) λ(_:Unit) W=>C x g W)(aq:∀(m:N)(b:List α)(x:α)(W:Ub)(L_:Tf),K b W->u x W->(∀g d,KeepsOthers W d->l W d->K b d->u x d->C x g d->L_ g d)->h.wpIn (F.inRound m) (n-1-1) P (Exit.then L_ λ_ _ _=>False) { tmps:=(c.zip<|L x).foldl (λaa (p_,ab)=>aa.setIfInBounds p_ ab) a.1,defers:=[] } W)(az:∀(m:N)(b:List α)(x:α)(g:Act)(W:Ub),K b W->u x W->C x g W->J b<N_->i.wpIn (F.inRound m) (n-1-1) P (ownPostK l K (λ_ _ _=>False) (b++[x]) W) g W)(a0:∀(T:N)(B:List α)(W:Ub),Z w.1<=T->S_ B->K B W->W.1[T]?=S (.deferred (S []))->Q_ .normal { a with defers:={ target:=.collected T,args:=#[] }:: a.2 } W):
 (Code.rangeFunc M_ c h i).wpIn F n P Q_ a w:=by
 refine wpIn_rangeFunc λfn a1=>?_;rw[bb];have X_:=run_enterLoop_outer (P:=P) (w:=w) fn a.1 c h i;generalize v:D (D w<|.deferred (S [])) (.loop { state:=.ready,pending:=U,fn,tmps:=a.1,params:=c,assign:=h,body:=i,defers:=Z w.1 })=f at X_;have ap:Ze f (Z w.1) (KR fn a.1 c h i (Z w.1) .ready U):=by
  subst v;refine⟨?_,?_⟩
  .have:=World.alloc_heap_new (D w<|.deferred (S [])) (.loop (KR fn a.1 c h i (Z w.1) .ready U));rwa[aO]at this
  exact G (gF _ _ _ sP) (World.alloc_heap_new w _)
 have bh:Z f.1=Z w.1+2:=by subst v;simp
 have al:K [] f:=by subst v;exact r.alloc _<|r.alloc _ h0
 have af:Sw (Z y.1) y f:=by subst v;exact R_.trans<|(Xb (Xb (dC (Z w.1) w) _) _).mono R_.4
 refine⟨_,_,f,{ target:=.fn (.func gf) lb,args:=#[.func (.yield (Z w.1+1)) #[] #[]] },f,gf,#[.func (.yield (Z w.1+1)) #[] #[]]++lb,f,X_,?_,?_,?_,λ_=>h1,?_⟩
 .simp only[resolve,hg];simp[go_sem]
 .intro f' T_;simp[Target.leads]at T_;subst T_;exact aj
 .simp[invoke,go_sem,eg]
 have ow:∀{Z_:Loop}{p V:Ub}{row:Zm},Ze p (Z w.1) Z_->p.grownBy V row->(∀k,row=S k->Z f.1<=k/\∃o:Obj,p.1[k]?=S o/\o.isCells=Sn)->Ze V (Z w.1) Z_:=λac k q=>ac.own k (λbf e=>by have:=(q bf e).1;omega);have fr:∀{p:Ub}{row:Zm},(∀k,row=S k->Z f.1<=k/\∃o:Obj,p.1[k]?=S o/\o.isCells=Sn)->∀k,row=S k->Z w.1<=k/\∃o:Obj,p.1[k]?=S o/\o.isCells=Sn:=λq k e=>⟨oN<|(q k e).1,(q k e).2⟩
 refine(bc (Z w.1+1) (λb W=>K b W/\Ze W (Z w.1) (KR fn a.1 c h i (Z w.1) .ready U)) f af O
  (λbe p V row Y_ k q=>⟨r be p V row Y_.1 k<|fr q,ow Y_.2 k q⟩) ?_ ⟨al,ap⟩).mono ?_
 .rintro b x W⟨H_,s⟩ a8 a6;have hy:=run_yield (P:=P) s.1 (a7 x);refine⟨_,_,_,_,hy,roundIn_of_wpIn a1<|aq _ b x W _ H_ a8 λg d U_ a5 a2 a9 ar=>?_⟩;have t:=s.keeps U_;refine⟨_,run_beginRound t.1 R,?_⟩;have ba:Ze (d.putObj (Z w.1+1) (.loop (KR fn a.1 c h i (Z w.1) .busy U))) (Z w.1) (KR fn a.1 c h i (Z w.1) .busy U):=t.put _;have a4:l W (d.putObj (Z w.1+1) (.loop (KR fn a.1 c h i (Z w.1) .busy U))):=M a5<|O_ _ _ _ _ O t.1 R;refine wpIn_mono (az _ b x g _ (r.putObj _ a2 O t.1 R) (ao.putObj _ a9 O t.1 R) ((ad x g).putObj (s:=()) _ ar O t.1 R) a6) ?_;rintro e a3 V j;cases e with
  |normal=>
   have z:=ba.keeps j.1;exact⟨_,_,z.fin U,⟨R,⟨r.putObj _ j.2.2 O z.1 R,z.put _⟩,M (M a4 j.2.1) (O_ _ _ _ _ O z.1 R),(((U_.from _).trans (KeepsFrom.of_grownBy (grownBy_putObj' d _ _) λbd e=>by cases e;omega)).trans (j.1.from _)).trans (KeepsFrom.of_grownBy (grownBy_putObj' V _ _) λbd e=>by cases e;omega)⟩⟩
  |ret=>exact j.2.elim
  |exit id=>exact j.2.elim
  |goto aa=>exact j.2.elim
  |panic ch=>exact j.elim
  |outgrown=>exact j.elim
 rintro e V⟨⟨ab,rfl⟩,B,hS,H_,s⟩;exact⟨U,_,run_endLoop s.1 (by simp[KR]),a0 _ B _ aA hS (r.putObj _ H_ O s.1 R) (s.put _).2⟩
end
section
attribute [local go_sem] Oper.semAt_some
structure Zf(n₀:N)(Ms:Vv)(V V':Ub):Prop where
 size:Z V.1<=Z V'.1
 low:∀k,k<n₀->¬Ms k->V'.1[k]?=V.1[k]?
 cells:∀(k:N)(o:Obj),¬Ms k->V.1[k]?=S o->o.isCells=So->V'.1[k]?=S o
theorem Zf.refl(V):Zf n d V V:=⟨aA,λ_ _ _=>R,λ_ _ _ h _=>h⟩
theorem Zf.trans(h:Zf n d w v)(k:Zf n d v u):Zf n d w u :=
 ⟨aJ h.1 k.1,λi c a=>G (k.2 i c a) (h.2 i c a),λi o a e b=>k.3 i o a (h.3 i o a e b) b⟩
theorem Zf.putObj(W l o c)(j:n<=l)(h:W.1[l]?=S o)(g:o.isCells=Sn):Zf n d W (W.putObj l c):=by
 have f:=grownBy_putObj' W l c;refine⟨f.4,λk i _=>?_,λk m _ a b=>?_⟩;·exact World.putObj_heap_other O
 exact G (World.putObj_heap_other λe=>by subst e;rw[h]at a;injection a with a;subst a;rw[g]at b;cases b) a
theorem Zf.of_below(h:Sw (Z w.1) w v)(c:n<=Z w.1):Zf n d w v :=
 ⟨h.4,λk b _=>h.5 k O,λk o _ a _=>G (h.5 k (aS.1 a).1) a⟩
abbrev Z4:=@Zf.of_below
theorem Yn{p}(h:E w p=S a):∃o:Obj,w.1[p.1]?=S o/\o.isCells=So:=by
 unfold World.cell? at h;cases ho:w.1[p.1]? with
 |none=>simp[ho]at h
 |some o=>exact⟨o,R,by cases o<;>simp_all[Obj.isCells]⟩
theorem Zf.block(h:Zf n d w v){p}(e:E w p=S a)(f:¬d p.1):v.1[p.1]?=w.1[p.1]?:=by let⟨o,b,c⟩:=Yn e;rw[b];exact h.3 _ _ f b c
theorem Zf.cell(h:Zf n d w v){p}(b:E w p=S a)(c:¬d p.1):E v p=S a :=
 G (bZ<|h.block b c) b
def mj(x:Yg):Uj:=Sa #[Si S6 x.1,Si S6 x.2,Si S6 x.a,Si S6 x.b,Si S6 x.5]
def Us(n:N)(k:N):List (Fin n):=((List.finRange n).reverse).take (n-k)
theorem Ua:Us n n=[]:=by simp[Us]
theorem Vf:J (Us n m)=n-m:=by simp[Us]
theorem TJ(h:m<n):Us n m=Us n (m+1)++[⟨m,h⟩]:=by unfold Us;have e:n-m=(n-(m+1))+1:=O;rw[e,bN<|by simp;omega];congr 1;simp;omega
theorem V6(F n)(c:F.1 171)(d:F.4=U)(a:Uy)(len b)(w:Ub):
 CallsIn F n prog 171 #[X a len b] w λe f=>e=Rt (.func (.func 201) #[] #[Sj (S ⟨Z w.1,0,U⟩)])/\f=D w (Sc #[X a len b] 56):=by
 refine iD func171 R c ?_ d;simp only[ntmps171,xY,Nat.reduceAdd,Nat.reduceSub];gi_wp2;go_ret;exact⟨R,R⟩
end
def Zx(w:Ub)(L B:N)(c:Uy)(a:Wo):Prop:=∀i (h:i<J a),∃b o,c=S ⟨b,o,U⟩/\(L<=b/\b<B)/\E w ⟨b,o+i,U⟩=S a[i]
theorem Zx.keepS{w'}(h:Zx w n m p y)(k:YA n m w w'):Zx w' n m p y:=λi d=>by let⟨b,o,e,a,c⟩:=h i d;exact⟨b,o,e,a,by rw[Xc<|k b a.1 a.2];exact c⟩
theorem UO(h:Sx w n m 1 a k y):∃j c,a=X j (J y) c/\Zx w n (Z w.1) j y:=by
 obtain⟨f,h|⟨g,s,o,rfl,p,e,t,_,q,l⟩⟩:=h
 .obtain⟨rfl,rfl⟩:=h;have:y=[]:=by simpa using f
  subst this;exact⟨_,_,R,λi b=>Sz b sP⟩
 simp only[iN]at f q l;subst f;refine⟨_,_,R,λi b=>⟨g,0,R,⟨p,?_⟩,?_⟩⟩
 .rcases mL g (Z w.1) with d|d;·exact d
  rw[iI d]at e;cases e
 rw[aV,uE w g i o m (0,0) e,<-mX];have:=fI (λr:Wo=>r[i]?) l;simp only[List.getElem?_take,b,gG]at this;rw[this,aC b]
theorem uk(w:Ub)(a)(t:TypeId):Zx (D w<|Sc a.toArray t) (Z w.1) (Z w.1+1) (S ⟨Z w.1,0,U⟩) a:=λi b=>
 ⟨_,0,R,⟨aA,iJ⟩,by simp[b]⟩
def Yx(w:Ub)(L B:N)(a:Uy)(bs:Wn):Prop:=∀i (h:i<J bs),∃b o,a=S ⟨b,o,U⟩/\(L<=b/\b<B)/\E w ⟨b,o+i,U⟩=S (Si .u8 (bs[i].toNat:I))
theorem Yx.keepS{w' c}(h:Yx w n m p c)(k:YA n m w w'):Yx w' n m p c:=λi f=>by let⟨b,o,e,a,d⟩:=h i f;exact⟨b,o,e,a,by rw[Xc<|k b a.1 a.2];exact d⟩
theorem Yx.keep{w':Ub}{a}(h:Yx w n m p a)(k:Sw m w w'):Yx w' n m p a:=h.keepS<|ZU k
theorem Zk(h:Sx w n k B a g y)(i:m<=n):Sx w m k B a g y:=by
 obtain⟨b,f|⟨e,c,d,l,j,r⟩⟩:=h;·exact⟨b,.inl f⟩
 exact⟨b,.inr ⟨e,c,d,l,aJ i j,r⟩⟩
def Tx(p:Addr):Uj:=Sj (S p)
def Yd:List Bool->List Addr->List Addr
 |k::ks,p::ps=>if k then p::Yd ks ps else Yd ks ps
 |_,_=>[]
theorem BB(b a)(k:Bool)(p)(h:J b=J a):Yd (b++[k]) (a++[p])=Yd b a++(if k then [p]else []):=by
 induction b generalizing a with
 |nil=>cases a with
  |nil=>cases k<;>rfl
  |cons q r=>simp at h
 |cons x r c=>cases a with
  |nil=>simp at h
  |cons q s=>cases x<;>simp[Yd,c s<|by simpa using h]
theorem CS(b a):J (Yd b a)<=J a:=by
 induction b generalizing a with
 |nil=>simp[Yd]
 |cons x r c=>cases a with
  |nil=>simp[Yd]
  |cons q s=>have:=c s;cases x<;>simp[Yd]<;>omega
theorem QZ:(prog.info? 257).map (λi=>(i.8,i.3,i.4))=S (S<|Sj U,1,8):=vZ
theorem Ct{l v}:(l++[v]).map Tx=l.map Tx++[Tx v]:=sP
theorem BI(w:Ub):Sx (D w<|Sc #[] 257) (Z w.1) 257 1 (X (S ⟨Z w.1,0,U⟩) 0 0) 0 []:=by have:=eI (base:=Z w.1) (e:=257) (size:=1) w #[] 0 sP sP R;simpa using this
theorem UA(t j P C b a L B w)(l:B<=Z w.1)(s:Q (Zx w L B t<|b.map Sb))(F:Q (Zx w L B j<|a.map Tx))(p:Q (J b=J a))(V:J a<=1000):
 Sk prog 180 #[X t (J b) P,X j (J a) C] w λh x=>∃v,h=Rt v/\Sw (Z w.1) w x/\Sx x (Z w.1) 257 1 v (J (Yd b a)) ((Yd b a).map Tx):=by
 let⟨O_,F_,J_,M_,N_⟩:=fX QZ
 go_in
 go_wp2
 go_loopw [5,11] (λv i wr=>∃k:N,k<=J a/\i=H k/\Q (Sw (Z w.1) w wr)/\Q (Sx wr (Z w.1) 257 1 v (J (Yd (b.take k) (a.take k))) ((Yd (b.take k) (a.take k)).map Tx))) λ_ i _=>J a-(JB i).toNat
 .exact⟨0,aN,R,Y<|Xb Rf _,Y<|by simpa [Yd]using BI w⟩
 obtain⟨k,U_,rfl,c,d⟩:=hrel;have W_:=c.4;by_cases q:k<J a
 .have o:k<J b:=oN p.o;obtain⟨R_,X_,rfl,⟨_,S_⟩,M⟩:=(s.keepS<|ZU (c.mono l)) k (by simpa using o);obtain⟨b2,Y_,rfl,⟨_,T_⟩,m⟩:=(F.keepS<|ZU (c.mono l)) k (by simpa using q);rw[cM]at M m;unfold Tx at m;have g:Q (Yd (b.take<|k+1) (a.take<|k+1)=Yd (b.take k) (a.take k)++(if b[k]then [a[k]]else [])):=Y (by rw[bN o,bN q,BB _ _ _ _<|by simp only[dH];omega]);have f:Q (J (Yd (b.take k) (a.take k))+1<=2000):=Y (by have:=CS (b.take k) (a.take k);simp only[dH]at this;omega);generalize b[k]=K at*;generalize a[k]=u at*;cases K with
  |false=>
   have e:Q (Sx wr (Z w.1) 257 1 u5 (J (Yd (b.take<|k+1) (a.take<|k+1))) ((Yd (b.take<|k+1) (a.take<|k+1)).map Tx)):=Y (by rw[g.o];simpa using d.o);go_wp2;exact⟨⟨k+1,O,gM,c,e⟩,SA⟩
  |true=>
   have T:Q (Yd (b.take<|k+1) (a.take<|k+1)=Yd (b.take k) (a.take k)++[u]):=Y (by have:=g.o;simpa using this);go_wp2_with (at_builtin;refine YC QZ d ?_ (oN f.o))
   intro v1 W r n H_ D_;have e:Q (Sx W (Z w.1) 257 1 v1 (J (Yd (b.take<|k+1) (a.take<|k+1))) ((Yd (b.take<|k+1) (a.take<|k+1)).map Tx)):=Y (by rw[T.o,Ct,aQ];exact r);have y:=Y (Xy ((c).alloc O _) n (d.alloc _) aA SB);go_wp2;exact⟨⟨k+1,O,gM,y,e⟩,SA⟩
 have z:Q (Sx wr (Z w.1) 257 1 u5 (J (Yd b a)) ((Yd b a).map Tx)):=Y (by have:=d.o;have h:=p.o;rwa[aW O,aW O]at this);go_wp2;go_ret;exact⟨_,R,c,z⟩
structure Gr(w w':Ub)(u v:Uj):Prop where
 grown:w.grownBy w' u.ownBlock
 own:∀g,v.ownBlock=S g->Z w.1<=g\/u.ownBlock=S g
theorem Gr.refl(w u):Gr w w u u:=⟨⟨R,R,R,aA,λ_ _ _=>R⟩,λ_ h=>aZ h⟩
theorem Gr.below(h:Gr w v a A_)(e:Sx w n m k a B y)(c:Sw n u w)(b:n<=Z w.1):Sw n u v :=
 c.grown h.1 b λf d=>(e.lt f d).1
def bz(a:I):Wn :=
 if a=1 then [99,111,110,115,116]else if a=2 then [97,114,103]else if a=3 then [97,100,100]else if a=4 then [115,117,98]else if a=5 then [109,117,108]
 else if a=6 then [100,105,118]else if a=7 then [108,101,115,115]else if a=8 then [108,111,97,100]else if a=9 then [115,116,111,114,101]else if a=11 then [109,111,118,101]else if a=12 then [112,117,116]else if a=13 then [103,101,116]else [111,117,116]
theorem Lb(a)(h:1<=a/\a<=13)(w:Ub):
 Sk prog 152 #[H a] w λe c=>e=Rt (Sg (K8<|bz a))/\c=w:=by
 have b:a=1\/a=2\/a=3\/a=4\/a=5\/a=6\/a=7\/a=8\/a=9\/a=10\/a=11\/a=12\/a=13:=O;obtain rfl|rfl|rfl|rfl|rfl|rfl|rfl|rfl|rfl|rfl|rfl|rfl|rfl:=b
 all_goals
  go_in
  go_wp2;go_ret;exact⟨R,R⟩
def Pz(x:Yg)(c:UInt8):Wc:=if c=100 then [x.2]else if c=97 then [x.a]else if c=98 then [x.b]else if c=105 then [x.5]else []
theorem BE:(l++[t]).map (Si S6)=l.map (Si S6)++[H t]:=sP
theorem Um{P:Yh}(d)(t j e:TypeId)(i:TypeInfo)(h)(b:P.underlying t=S (.slice e))(a:P.info? e=S i)(v:Uj)(n c)(k:Wo)(f:Sx w d e h v n k):
 (Builtin.append_ #[t,t] j #[v,X U 0 c]).run P w=.ok v w:=by
 obtain⟨rfl,rfl⟩|⟨g,cap,cur,rfl,_,_,hnc,_⟩:=f.2;·simp[Builtin.append_,run_underlying b,sizeOf,typeInfo,a,Builtin.lenOf,Builtin.firstCells]
 simp[Builtin.append_,run_underlying b,sizeOf,typeInfo,a,Builtin.lenOf,Builtin.firstCells,hnc,storeCells]
theorem Cj{b}(f:Xf w n m (S b) l):∀j u,(l.map<|Si S6)[j]?=S u->E w (b.add j)=S u:=by
 intro j u a;have c:j<J l:=by
  obtain h|h:=mL j (J l);·exact h
  rw[dK<|by simpa using h]at a;cases a
 obtain⟨g,o,e,-,d⟩:=f j c;cases e;rw[dX,aC c]at a;cases a;rw[mK];exact d
theorem JD{o:Oper}{k:Act}{K:Tf}{M:Yt}(C x:Operand)(t:TypeId)(u:o.2=.call { callee:=.builtin .append,args:=#[C,x],argTypes:=#[t,t] })(g:N)(e:TypeId)(i:TypeInfo)(z:R_.underlying t=S (.slice e))(r:R_.info? e=S i)(P:i.8=S (H 0))(T:i.3=1)(V:i.4=8)(v:Uj)(b:Wc)(y:k.eval C=v)(p:Sx w g e 1 v (J b) (b.map<|Si S6))(s:v≠Hq)(f:Uy)(m c:N)(a:Wc)(L W:N)(B:k.eval x=X f m c)(n:m=J a)(F:Xf w L W f a)(U_:J b+m<=1000000000000)(I_:g<=Z w.1)(q:∀d j,Sx j g e 1 d (J (b++a)) ((b++a).map (Si S6))->Gr w j v d->d≠Hq->K (k.put o.1 d) j):
 o.wp R_ k w K M:=by
 cases f with
 |none=>
  have H_:a=[]:=by
   cases a with
   |nil=>rfl
   |cons x V_=>let⟨_,_,e,_⟩:=F 0 sP;cases e
  subst H_;subst n;have N_:=Um (P:=R_) (w:=w) g t o.3 e i 1 z r v (J b) c _ p;unfold Oper.wp execOp;simp only[u,resolve,invoke,builtin,lG,lH,jE,jN,eH,fZ,y,B,bO,N_];exact q v w (by simpa using p) (Gr.refl _ _) s
 |some f=>
  let⟨d,j,M_,E_,F_,G_,h⟩:=kI (P:=R_) w g t o.3 e i (H 0) 1 8 z r P T V R vY v (J b) _ p f m c (a.map<|Si S6) (by simp[n]) (Cj F) (by intro W_ P_;obtain⟨X_,-,rfl⟩:=aY.1 P_;rfl) SD O I_;unfold Oper.wp execOp;simp only[u,resolve,invoke,builtin,lG,lH,jE,jN,eH,fZ,y,B,M_];refine q d j (by rw[aQ,bG,<-n];exact E_) ⟨F_,λT_ l=>?_⟩ λe=>s (G_.1 e).1;obtain h|h:=h;·exact aZ (h▸l)
  rw[h]at l;cases l;exact bC<|aA
theorem KZ(B){b}(a:Wc)(C:m<=Z w.1)(t:Q (Zx w n m p<|b.map Tx))(e:Q (J a=J b))(F:Q (∀i (L:i<J b) (P:i<J a),b[i].1<Z w.1/\E w b[i]=S (H a[i])))(V:J b<=1000):
 Sk prog 187 #[X p (J b) B] w λg u=>∃v,g=Rt v/\Sw (Z w.1) w u/\Sx u (Z w.1) 2 1 v (J a) (a.map<|Si S6):=by
 go_in
 go_wp2
 go_loopw [3,9] (λv i wr=>∃k:N,k<=J b/\i=H k/\Q (Sw (Z w.1) w wr)/\Q (Sx wr (Z w.1) 2 1 v (J (a.take k)) ((a.take k).map (Si S6)))) λ_ i _=>J b-(JB i).toNat
 .exact⟨0,aN,R,Y<|Xb Rf _,Y (by have:=eI (base:=Z w.1) (e:=2) (size:=1) w #[] 0 sP sP R;simpa using this)⟩
 obtain⟨k,W,rfl,c,d⟩:=hrel;have T:=c.4;by_cases o:k<J b
 .have l:k<J a:=oN e.o;obtain⟨b2,U_,rfl,⟨_,P_⟩,h⟩:=(t.keepS<|ZU (c.mono C)) k (by simpa using o);rw[cM]at h;unfold Tx at h;let⟨r,s⟩:=F k o l;have Q_:=G (c.cell (p:=b[k]) r) s;have K:=Y<|bN l;have f:Q (J (a.take k)+1<=2000):=Y (by have:=e.o;simp only[dH];omega);generalize a[k]=V_ at*;generalize b[k]=W_ at*;go_wp2_with (at_builtin;refine YC RH d ?_ (oN f.o))
  intro v1 M q j F_ D_;have y:Q (Sx M (Z w.1) 2 1 v1 (J (a.take<|k+1)) ((a.take<|k+1).map (Si S6))):=Y (by rw[K.o,BE,aQ,List.map_take,dH];exact q)
  have x:=Y (Xy ((c).alloc O _) j (d.alloc _) aA SB);go_wp2;exact⟨⟨k+1,O,gM,x,y⟩,SA⟩
 have z:Q (Sx wr (Z w.1) 2 1 u3 (J a)<|a.map (Si S6)):=Y (by have:=d.o;have g:=e.o;rwa[aW O]at this);go_wp2;go_ret;exact⟨_,R,c,z⟩
def iB(a:I):Bool:=Jd (a<=2)
def gx(k:I):Wn:=if k=1 then [106,117,109,112]else if k=3 then [114,101,116]else [98,114,97,110,99,104]
def Yy(w:Ub):Prop:=2 < Z w.1/\∀k:N,1<=k->k<=13->E w ⟨2,k*5,U⟩=S (Sg (K8<|bz k))/\E w ⟨2,k*5+1,U⟩=S (Sb (dB k))/\E w ⟨2,k*5+2,U⟩=S (Sb (aB k)) /\
 E w ⟨2,k*5+3,U⟩=S (Sb (bB k))/\E w ⟨2,k*5+4,U⟩=S (Sb (iB k))
def Yb(w:Ub):Prop:=1 < Z w.1/\∀k:N,1<=k->k<=3->E w ⟨1,k*4,U⟩=S (Sg (K8<|gx k))/\E w ⟨1,k*4+1,U⟩=S (Sb ((k:I) != 1))/\E w ⟨1,k*4+2,U⟩=S (Sb ((k:I) != 3)) /\
 E w ⟨1,k*4+3,U⟩=S (Sb ((k:I)==2))
theorem Yy.keep{w':Ub}(h:Yy w)(k:Sw n w w')(c:2 < n):Yy w':=by refine⟨aX h.1 k.4,λi a b=>?_⟩;have e:=λo=>Xc (o:=o) (k.5 2 c);let⟨c0,c1,c2,c3,c4⟩:=h.2 i a b;exact⟨G (e _) c0,G (e _) c1,G (e _) c2,G (e _) c3,G (e _) c4⟩
theorem Yb.keep{w':Ub}(h:Yb w)(k:Sw n w w')(c:1 < n):Yb w':=by refine⟨aX h.1 k.4,λi a b=>?_⟩;have e:=λo=>Xc (o:=o) (k.5 1 c);let⟨c0,c1,c2,c3⟩:=h.2 i a b;exact⟨G (e _) c0,G (e _) c1,G (e _) c2,G (e _) c3⟩
theorem Yy.old(h:Yy w):Uw w:=⟨h.1,λk a b=>by let⟨c0,c1,c2,c3,c4⟩:=h.2 k a b;exact⟨_,c0,c1,c2,c3,_,c4⟩⟩
theorem Yb.old(h:Yb w):T7 w:=⟨h.1,λk a b=>by let⟨c0,c1,c2,c3⟩:=h.2 k a b;exact⟨_,c0,c1,c2,c3⟩⟩
theorem J7(w:Ub)(a)(t:TypeId)(d:Wo)(c:TypeId):Zx (D (D w<|Sc a.toArray t) (Sc d.toArray c)).drew (Z w.1) (Z w.1+2) (S ⟨Z w.1,0,U⟩) a:=λi b=>
 ⟨_,0,R,⟨aA,O⟩,by let⟨f,o,e,_,h⟩:=uk w a t i b;cases e;exact G (Xc<|gF _ _ _ sP) h⟩
theorem J6(w:Ub)(c)(t:TypeId)(b:Wo)(a:TypeId):Zx (D (D w<|Sc b.toArray a) (Sc c.toArray t)).drew (Z w.1) (Z w.1+2) (S ⟨Z w.1+1,0,U⟩) c:=λi d=>
 ⟨_,0,R,⟨O,O⟩,by let⟨f,o,e,_,h⟩:=uk (D w<|Sc b.toArray a) c t i d;have e1:Z (D w<|Sc b.toArray a).1=Z w.1+1:=sP;rw[e1]at e;cases e;exact h⟩
theorem yQ{c b}{a W:Ub}{e d i h}(n:J c=J b)(p:J b<=1000)(l:Sw (Z a.1) a W)(q:Z a.1+2<=Z W.1)(m:Zx W (Z a.1) (Z a.1+2) e (c.map Sb))(o:Zx W (Z a.1) (Z a.1+2) d (b.map Tx)):
 Sk prog 180 #[X e (J c) i,X d (J b) h] W λg f=>∃v,g=Rt v/\Sw (Z a.1) a f/\Sx f (Z a.1) 257 1 v (J (Yd c b)) ((Yd c b).map Tx):=by
 refine(UA e d i h c b (Z a.1) (Z a.1+2) W q (Y m) (Y o) (Y n) p).mono ?_;rintro g f⟨v,rfl,j,k⟩;exact⟨v,R,Xg l j,Zk k O⟩
theorem zE(b)(k:N)(z x y r w)(u:Q (Jk w b 0 ⟨k,z,x,y,r⟩))(l:1<=k)(m:k<=13)(p:Q (Yy w)):
 Sk prog 218 #[Hn b] w λn a=>∃v,n=Rt v/\Sw (Z w.1) w a/\Sx a (Z w.1) 257 1 v (J (Yd [dB k,aB k,bB k,iB k] [(A b 1),(A b 2),(A b 3),(A b 4)])) ((Yd [dB k,aB k,bB k,iB k] [(A b 1),(A b 2),(A b 3),(A b 4)]).map Tx):=by
 obtain⟨q,q1,q2,q3,q4⟩:=u.o;simp only at q q1 q2 q3 q4;obtain⟨c0,c1,c2,c3,c4⟩:=p.2 k l m;have O_:=p.1;generalize dB k=i at*;generalize aB k=g at*;generalize bB k=h at*;generalize iB k=j at*
 go_in
 go_wp2_with fail
 have L:(λe:Ub=>Z e.1=Z w.1+1/\E e (A (Z w.1) 1)=S (Sb i)/\E e (A (Z w.1) 2)=S (Sb g)/\E e (A (Z w.1) 3)=S (Sb h)/\E e (A (Z w.1) 4)=S (Sb j)/\Q (Sw (Z w.1) w e)) (D w<|Sc #[Sg (K8<|bz k),Sb i,Sb g,Sb h,Sb j] 247):=⟨sP,sP,sP,sP,sP,Y<|Xb Rf _⟩;generalize D w _=c at*;obtain⟨e1,B,C,M,P,s⟩:=L;clear q q1 q2 q3 q4 c0 c1 c2 c3 c4;have M_:=Y e1;have f:Z w.1<Z c.1:=O;clear e1;have t:=Y λK T W l m F V=>@yQ [i,g,h,j] [(A b 1),(A b 2),(A b 3),(A b 4)] c W K T 4 4 R sP l m F V
 go_region_held3 (λa=>E a (A (Z w.1) 1)=S (Sb i)/\E a (A (Z w.1) 2)=S (Sb g)/\E a (A (Z w.1) 3)=S (Sb h)/\E a (A (Z w.1) 4)=S (Sb j)) (go_keep)
  (first|(go_at_call 180;refine(t _ _ _ (Xb (Xb Rf _) _).drew (by show _<=Z (World.alloc _ _).1;simp) (by first|exact J7 c _ _ _ _|exact J6 c _ _ _ _) (by first|exact J6 c _ _ _ _|exact J7 c _ _ _ _)).mono ?_;rintro n L_⟨v5,rfl,d,o⟩;have r_:=Y<|s.trans (d.mono O);have u_:Q (Sx L_ (Z w.1) 257 1 v5 _ _):=Y<|Zk o O;have f1:=oB d B f;have f2:=oB d C f;have f3:=oB d M f;have N_:=oB d P f;clear d o))
 all_goals
  go_wp2;go_ret;exact⟨_,R,r_,u_⟩
def Iw(x:Yg):Wc:=(if aB x.1 then [x.a]else [])++(if bB x.1 then [x.b]else [])
theorem vf(b k:N)(l h j m w)(Z_:Q (Jk w b 0 ⟨k,l,h,j,m⟩))(V_:1<=k)(L:k<=13)(M:Q (Yy w)):
 Sk prog 172 #[Hn b] w λe f=>∃v,e=Rt v/\Sw (Z w.1) w f/\Sx f (Z w.1) 2 1 v (J (Iw ⟨k,l,h,j,m⟩)) ((Iw ⟨k,l,h,j,m⟩).map (Si S6)):=by
 obtain⟨P,q1,q2,q3,q4⟩:=Z_.o;simp only at P q1 q2 q3 q4;obtain⟨c0,c1,c2,c3,c4⟩:=M.2 k V_ L;have hz:=M.1;have K:b<Z w.1:=aI w _ q2;have x:Q (Iw ⟨k,l,h,j,m⟩=(if aB (k:I)then [h]else [])++(if bB (k:I)then [j]else [])):=Y R;generalize Iw ⟨k,l,h,j,m⟩=B at*;generalize dB k=uD at*;generalize aB k=c at*;generalize bB k=d at*;generalize iB k=uI at*;have D_:=Y q2;have E_:=Y q3
 go_in
 go_wp2_with fail
 have X_:(λt:Ub=>Z t.1=Z w.1+1/\E t (A (Z w.1) 2)=S (Sb c)/\E t (A (Z w.1) 3)=S (Sb d)/\Q (Sw (Z w.1) w t)) (D w<|Sc #[Sg (K8<|bz k),Sb uD,Sb c,Sb d,Sb uI] 247):=⟨sP,sP,sP,Y<|Xb Rf _⟩;generalize D w _=a at*;obtain⟨e1,F,T,u⟩:=X_;clear P q1 q2 q3 q4 c0 c1 c2 c3 c4;have af:=Y e1;have q:Z w.1<Z a.1:=O;clear e1;have y:Q (∀(s n:Uy)(W:Ub),Sw (Z a.1) a W->Zx W (Z a.1) (Z W.1) s ([c,d].map Sb)->Zx W (Z a.1) (Z W.1) n ([(A b 2),(A b 3)].map Tx)->Sk prog 180 #[X s 2 2,X n 2 2] W λe g=>∃i c5 m5,e=Rt (X i m5 c5)/\E g (A (Z w.1) 2)=S (Sb c)/\E g (A (Z w.1) 3)=S (Sb d) /\
  Q (Sk prog 187 #[X i m5 c5] g λe f=>∃v,e=Rt v/\E f (A (Z w.1) 2)=S (Sb c)/\E f (A (Z w.1) 3)=S (Sb d)/\Q (Sw (Z w.1) w f)/\Q (Sx f (Z w.1) 2 1 v (J B)<|B.map (Si S6)))):=Y (λs n W V hk hp=>by
  have aj:=V.4;refine(UA s n 2 2 [c,d] [(A b 2),(A b 3)] (Z a.1) (Z W.1) W aA (Y hk) (Y hp) (Y R) sP).mono ?_;rintro e g⟨v5,rfl,J_,aa⟩;have s5:=J_.4;have r:=Xg V J_;obtain⟨i,c5,rfl,ac⟩:=UO aa;rw[bK];have L_:=u.trans<|r.mono O;refine⟨i,c5,_,R,oB r F q,oB r T q,Y ?_⟩;have O_:=oB L_ D_ K;have P_:=oB L_ E_ K;have p:b<Z g.1:=O;refine(KZ c5 B aA (Y ac) (Y ?_) (Y ?_) ?_).mono ?_;·rw[x.o];cases c<;>cases d<;>rfl
  .intro z o h';have ad:=x.o;subst ad;cases c<;>cases d;·exact Sz o<|by simp[Yd]
   .match z,o with
    |0,_=>exact⟨p,P_⟩
   .match z,o with
    |0,_=>exact⟨p,O_⟩
   match z,o with
   |0,_=>exact⟨p,O_⟩
   |1,_=>exact⟨p,P_⟩
  .cases c<;>cases d<;>simp[Yd]
  rintro e w7⟨Q_,rfl,Y_,ab⟩
  have C:=Xg r Y_;exact⟨Q_,R,oB C F q,oB C T q,Y<|u.trans (C.mono O),Y<|Zk ab O⟩)
 have S_:=Y (y.o (S ⟨Z a.1,0,U⟩) (S ⟨Z a.1+1,0,U⟩) (D (D a<|Sc #[Sb c,Sb d] 4) (Sc #[Ho b 2,Ho b 3] 257)).drew (Xb (Xb (dC (Z a.1) a) _) _).drew (by rw[show Z (D (D a<|Sc #[Sb c,Sb d] 4) (Sc #[Ho b 2,Ho b 3] 257)).drew.1=Z a.1+2 from by show Z (D (D a<|Sc #[Sb c,Sb d] 4) (Sc #[Ho b 2,Ho b 3] 257)).1=_;simp];exact J7 a [Sb c,Sb d] 4 [Ho b 2,Ho b 3] 257) (by rw[show Z (D (D a<|Sc #[Sb c,Sb d] 4) (Sc #[Ho b 2,Ho b 3] 257)).drew.1=Z a.1+2 from by show Z (D (D a<|Sc #[Sb c,Sb d] 4) (Sc #[Ho b 2,Ho b 3] 257)).1=_;simp];exact J6 a [Ho b 2,Ho b 3] 257 [Sb c,Sb d] 4));have T_:=Y (y.o (S ⟨Z a.1+1,0,U⟩) (S ⟨Z a.1,0,U⟩) (D (D a<|Sc #[Ho b 2,Ho b 3] 257) (Sc #[Sb c,Sb d] 4)).drew (Xb (Xb (dC (Z a.1) a) _) _).drew (by rw[show Z (D (D a<|Sc #[Ho b 2,Ho b 3] 257) (Sc #[Sb c,Sb d] 4)).drew.1=Z a.1+2 from by show Z (D (D a<|Sc #[Ho b 2,Ho b 3] 257) (Sc #[Sb c,Sb d] 4)).1=_;simp];exact J6 a [Sb c,Sb d] 4 [Ho b 2,Ho b 3] 257) (by rw[show Z (D (D a<|Sc #[Ho b 2,Ho b 3] 257) (Sc #[Sb c,Sb d] 4)).drew.1=Z a.1+2 from by show Z (D (D a<|Sc #[Ho b 2,Ho b 3] 257) (Sc #[Sb c,Sb d] 4)).1=_;simp];exact J7 a [Ho b 2,Ho b 3] 257 [Sb c,Sb d] 4));clear u
 go_region_held3 (λf=>E f (A (Z w.1) 2)=S (Sb c)/\E f (A (Z w.1) 3)=S (Sb d)) (go_keep)
  (first
   |(go_at_call 180;with_reducible refine S_.o.mono ?_;rintro e g⟨i,c5,m5,rfl,f2,f3,C_⟩)
   |(go_at_call 180;with_reducible refine T_.o.mono ?_;rintro e g⟨i,c5,m5,rfl,f2,f3,C_⟩)
   |(go_at_call 187;with_reducible refine C_.o.mono ?_;rintro e w7⟨Q_,rfl,L,h3,R_,U_⟩))
 all_goals
  go_wp2;go_ret;exact⟨_,R,R_,U_⟩
def Id(x:Yj):Wc:=if x.1 != 1 then [x.a]else []
theorem tL(C:Q (Va w n m ⟨k,t,T,z⟩))(L:1<=k)(B:k<=3)(q:Q (Yb w)):
 Sk prog 138 #[Ho n m] w λe c=>∃v,e=Rt v/\Sw (Z w.1) w c/\Sx c (Z w.1) 257 1 v (J (Yd [(k:I) != 1] [(A n<|m+1)])) ((Yd [(k:I) != 1] [(A n<|m+1)]).map Tx):=by
 let⟨h,q1,q2,q3⟩:=C.o;simp only at h q1 q2 q3;let⟨c0,c1,c2,c3⟩:=q.2 k L B;have r:=q.1;have p:n<Z w.1:=aI w _ h;generalize ((k:I) != 1)=b at*;have i:Q (∀(g f:Uy)(W:Ub),Sw (Z w.1) w W->Zx W (Z w.1) (Z W.1) g ([b].map Sb)->Zx W (Z w.1) (Z W.1) f ([(A n<|m+1)].map Tx)->Sk prog 180 #[X g 1 1,X f 1 1] W λe d=>∃v,e=Rt v/\Sw (Z w.1) w d/\Q (Sx d (Z w.1) 257 1 v (J (Yd [b] [(A n<|m+1)])) ((Yd [b] [(A n<|m+1)]).map Tx))):=Y (λg f W o M F=>by have K:=o.4;refine(UA g f 1 1 [b] [(A n<|m+1)] (Z w.1) (Z W.1) W aA (Y M) (Y F) (Y R) sP).mono ?_;rintro e d⟨v5,rfl,a,P⟩;exact⟨v5,R,Xg o a,Y<|Zk P O⟩)
 have e2:∀x y,Z (D (D w x) y).drew.1=Z w.1+2:=λx y=>by show Z (D (D w x) y).1=_;simp
 have s:=Y (i.o (S ⟨Z w.1,0,U⟩) (S ⟨Z w.1+1,0,U⟩) (D (D w<|Sc #[Sb b] 4) (Sc #[Ho n<|m+1] 257)).drew (Xb (Xb (dC (Z w.1) w) _) _).drew (by rw[e2];exact J7 w [Sb b] 4 [Ho n<|m+1] 257) (by rw[e2];exact J6 w [Ho n<|m+1] 257 [Sb b] 4));have u:=Y (i.o (S ⟨Z w.1+1,0,U⟩) (S ⟨Z w.1,0,U⟩) (D (D w<|Sc #[Ho n<|m+1] 257) (Sc #[Sb b] 4)).drew (Xb (Xb (dC (Z w.1) w) _) _).drew (by rw[e2];exact J6 w [Sb b] 4 [Ho n<|m+1] 257) (by rw[e2];exact J7 w [Ho n<|m+1] 257 [Sb b] 4));have V:(0:I)<=(k:I):=O;have I_:(k:I)<4:=O
 go_in
 go_wp2_with fail
 go_region_held3 (λc=>E c (A n m)=S (H k)/\E c (A 1<|k*4+1)=S (Sb b)) (go_keep)
  (first
   |(go_at_call 180;with_reducible refine s.o.mono ?_;rintro e d⟨v5,rfl,a,l⟩;have f2:=oB a h p;have f3:=oB a c1 r;have j:=Y a;clear a)
   |(go_at_call 180;with_reducible refine u.o.mono ?_;rintro e d⟨v5,rfl,a,l⟩;have f2:=oB a h p;have f3:=oB a c1 r;have j:=Y a;clear a))
 all_goals
  go_wp2;go_ret;exact⟨v5,R,j,l⟩
theorem BY(w)(i:Q (Va w n m ⟨k,t,T,z⟩))(p:1<=k)(B:k<=3)(r:Q (Yb w)):
 Sk prog 170 #[Ho n m] w λe q=>∃v,e=Rt v/\Sw (Z w.1) w q/\Sx q (Z w.1) 2 1 v (J (Id ⟨k,t,T,z⟩)) ((Id ⟨k,t,T,z⟩).map (Si S6)):=by
 have s:=Y<|tL i p B r;let⟨c,q1,q2,q3⟩:=i.o;simp only at c q1 q2 q3;have f:Q (Id ⟨k,t,T,z⟩=if ((k:I) != 1)then [t]else []):=Y R;generalize Id ⟨k,t,T,z⟩=x at*;generalize ((k:I) != 1)=b at*;have y:n<Z w.1:=aI w _ c
 go_in
 go_wp2_with fail
 refine s.mono ?_;rintro e P⟨v5,rfl,a,j⟩;obtain⟨K,c5,rfl,o⟩:=UO j;rw[bK];have C:n<Z P.1:=oN a.4
 have u:=Y (KZ c5 x aA (Y o) (Y<|by rw[f.o];cases b<;>rfl) (Y (by
  intro V h L;have F:=f.o;subst F;cases b;·exact Sz h<|by simp[Yd]
  match V,h with
  |0,_=>exact⟨C,oB a (Y q1) y⟩)) (by cases b<;>simp[Yd]))
 have d:=Y a;generalize J (Yd [b] [(A n<|m+1)])=M at*;go_wp2_with fail
 refine u.mono ?_;rintro e N_⟨W,rfl,g,l⟩;go_wp2;go_ret;exact⟨W,R,Y<|Xg d g,Y<|Zk l d.4⟩
def BW(x:Yg):Wc:=if dB x.1 then [x.2]else []
theorem UH(b g j k l w)(V:Q (Jk w b 0 ⟨n,g,j,k,l⟩))(K:1<=n)(L:n<=13)(F:Q (Yy w)):
 Sk prog 145 #[Hn b] w λe d=>∃v,e=Rt v/\Sw (Z w.1) w d/\Sx d (Z w.1) 2 1 v (J (BW ⟨n,g,j,k,l⟩)) ((BW ⟨n,g,j,k,l⟩).map (Si S6)):=by
 let⟨q,q1,q2,q3,q4⟩:=V.o;simp only at q q1 q2 q3 q4;let⟨c0,c1,c2,c3,c4⟩:=F.2 n K L;have t:=F.1;have o:b<Z w.1:=aI w _ q2;have r:Q (BW ⟨n,g,j,k,l⟩=if dB (n:I)then [g]else []):=Y R;generalize BW ⟨n,g,j,k,l⟩=y at*;generalize dB n=a at*;have C:=Y q1;have s:Q (∀(p m:Uy)(W:Ub),Sw (Z w.1) w W->Zx W (Z w.1) (Z W.1) p ([a].map Sb)->Zx W (Z w.1) (Z W.1) m ([(A b 1)].map Tx)->Sk prog 180 #[X p 1 1,X m 1 1] W λe i=>∃f c5 m5,e=Rt (X f m5 c5)/\Sw (Z w.1) w i /\
  Q (Sk prog 187 #[X f m5 c5] i λe d=>∃v,e=Rt v/\Sw (Z w.1) w d/\Q (Sx d (Z w.1) 2 1 v (J y)<|y.map (Si S6)))):=Y (λp m W P O_ R_=>by
  have ad:=P.4;refine(UA p m 1 1 [a] [(A b 1)] (Z w.1) (Z W.1) W aA (Y O_) (Y R_) (Y R) sP).mono ?_;rintro e i⟨v5,rfl,c,P_⟩;have s5:=c.4;have u:=Xg P c;obtain⟨f,c5,rfl,S_⟩:=UO P_;rw[bK];refine⟨f,c5,_,R,u,Y ?_⟩;have V_:=oB u C o;have M_:b<Z i.1:=O;refine(KZ c5 y aA (Y S_) (Y ?_) (Y ?_) ?_).mono ?_;·rw[r.o];cases a<;>rfl
  .intro U_ T Y_;have T_:=r.o;subst T_;cases a;·exact Sz T<|by simp[Yd]
   match U_,T with
   |0,_=>exact⟨M_,V_⟩
  .cases a<;>simp[Yd]
  rintro e X_⟨x,rfl,h,Q_⟩
  exact⟨x,R,Xg u h,Y<|Zk Q_ O⟩)
 have e2:∀z M,Z (D (D w z) M).drew.1=Z w.1+2:=λz M=>by show Z (D (D w z) M).1=_;simp
 have H_:=Y (s.o (S ⟨Z w.1,0,U⟩) (S ⟨Z w.1+1,0,U⟩) (D (D w<|Sc #[Sb a] 4) (Sc #[Ho b 1] 257)).drew (Xb (Xb (dC (Z w.1) w) _) _).drew (by rw[e2];exact J7 w [Sb a] 4 [Ho b 1] 257) (by rw[e2];exact J6 w [Ho b 1] 257 [Sb a] 4));have I_:=Y (s.o (S ⟨Z w.1+1,0,U⟩) (S ⟨Z w.1,0,U⟩) (D (D w<|Sc #[Ho b 1] 257) (Sc #[Sb a] 4)).drew (Xb (Xb (dC (Z w.1) w) _) _).drew (by rw[e2];exact J6 w [Sb a] 4 [Ho b 1] 257) (by rw[e2];exact J7 w [Ho b 1] 257 [Sb a] 4));have ab:(0:I)<=n:=O;have ac:(n:I)<14:=O
 go_in
 go_wp2_with fail
 go_region_held3 (λd=>E d (A b 0)=S (H n)/\E d (A 2<|n*5+1)=S (Sb a)) (go_keep)
  (first
   |(go_at_call 180;with_reducible refine H_.o.mono ?_;rintro e i⟨f,c5,m5,rfl,c,B⟩;have f2:=oB c q o;have f3:=oB c c1 t;clear c)
   |(go_at_call 180;with_reducible refine I_.o.mono ?_;rintro e i⟨f,c5,m5,rfl,c,B⟩;have f2:=oB c q o;have f3:=oB c c1 t;clear c)
   |(go_at_call 187;with_reducible refine B.o.mono ?_;rintro e X_⟨x,rfl,h,J_⟩;have Z_:=oB h q o;have aa:=oB h c1 t;have G_:=Y h;clear h))
 all_goals
  go_wp2;go_ret;exact⟨x,R,G_,J_⟩
theorem RF:(prog.info? 132).map (λi=>(i.8,i.3,i.4))=S (S<|H 0,1,8):=vZ
theorem Yz(a c)(ha:Q (Xf w n m p l))(t:Q (a=J l))(C:a<=100000)(M:m<=Z w.1):
 Sk prog 169 #[X p a c] w λB f=>∃g b,B=Rt (X g (J l) b)/\Sw (Z w.1) w f/\Xf f (Z w.1) (Z f.1) g l:=by
 have y:Q (Sx (D w<|Sc #[] 132) (Z w.1) 132 1 (Hl (Z w.1) 0 0) 0 []):=Y<|eI (base:=Z w.1) (e:=132) (size:=1) w #[] 0 sP sP R
 go_in
 go_wp2
 go_loopw [3,9] (λu i wr=>∃k:N,k<=a/\i=H k/\Sw (Z w.1) w wr/\Q (Sx wr (Z w.1) 132 1 u k<|(l.take k).map (Si S6))) λ_ i _=>a-(JB i).toNat
 .exact⟨0,aN,R,Xb Rf _,y⟩
 obtain⟨k,P,rfl,d,e⟩:=hrel;by_cases F:k<a
 .have o:k<J l:=oN t.o;obtain⟨L,T,rfl,⟨_,K⟩,h⟩:=ha k o;have V:=G (XU d O) h;have x:=Y<|X7 o;generalize l[k]=W at*;have S_:=d.4;go_wp2_with (at_builtin;refine YC RF e ?_)
  intro v1 U_ r j _ _;have z:=Y r;have v:=Y (Xy (Xb d _) j (e.alloc _) aA SB);go_wp2;exact⟨⟨k+1,O,gM,v,Y<|by rw[x.o,Yl,List.map_take];exact z⟩,SA⟩
 go_wp2;go_ret;have q:=e.o;rw[aW (l:=l) (i:=k) (oN t.o)]at q;obtain⟨K_,c1,rfl,s⟩:=Xk q;exact⟨_,_,R,d,s⟩
theorem KY{m' l'}{args:Zh}{a:Ending->Vy}(h:YieldAt Fence.wide n R_ m args w a):YieldAt (Fence.wide.inRound l') m' R_ m args w a:=by let⟨g,tmps,d,e,i,b⟩:=h;exact⟨g,tmps,d,e,i,b.1,λc f _=>b.2 c f<|room_wide _⟩
structure Pl where
 i:N
 ua:Uy
 uc:N
 us:Wc
 da:Uy
 dc:N
 ds:Wc
def Pl.dat(p:Pl):N×Wc×Wc:=(p.i,p.4,p.7)
def pf(p:Pl):Zh:=#[Si S6 (p.i:I),Sa #[X p.2 (J p.4) p.3,X p.5 (J p.7) p.6]]
def og(a:N)(b:N×Wc×Wc->Prop)(p:Pl)(V:Ub):Prop:=b p.dat/\Xf V a (Z V.1) p.2 p.4/\Xf V a (Z V.1) p.5 p.7
def VH(x:Xe)(j:Fin (J x.2)):N×Wc×Wc:=((j:N)+1,Iw<|x.2[j],BW<|x.2[j])
def NS(x:Xe):List (N×Wc×Wc):=(J x.2+1,Id x.3,[])::((Us (J x.2) 0).map (VH x)++[(0,[],x.1.map Ph.dst)])
theorem t6(x)(j:Fin (J x.2)):VH x j∈NS x:=by refine cN _<|dD _ (List.mem_map_of_mem ?_);unfold Us;rw[aW sP];exact kU.2<|lX j
theorem tE(x):((0:N),([]:Wc),x.1.map Ph.dst)∈NS x:=cN _<|fB _ (cS.2 R)
theorem Yy.of_block(h:Yy w)(e:v.1[(2: N)]?=w.1[(2: N)]?)(c:Z w.1<=Z v.1):Yy v:=by refine⟨aX h.1 c,λi a b=>?_⟩;have e:=λo=>Xc (o:=o) e;simp only[e];exact h.2 i a b
theorem Yb.of_block(h:Yb w)(e:v.1[(1: N)]?=w.1[(1: N)]?)(c:Z w.1<=Z v.1):Yb v:=by refine⟨aX h.1 c,λi a b=>?_⟩;have e:=λo=>Xc (o:=o) e;simp only[e];exact h.2 i a b
structure P0(x:Xe)(L B Bx n₀:N)(V:Ub):Prop where
 op:Yy V
 ter:Yb V
 blk:Tk V L B Bx 0 x
 lt:Bx<n₀
 le:B<=n₀
 g1:2 < n₀
 g2:1 < n₀
theorem XO{a:Type}{d:a->Vy}(b:OwnFrom n d){s:a}(h:d s w)(k:Sw (Z w.1) w v):d s v :=
 b s w v U h ⟨k.1,k.2,k.3,k.4,λi c _=>k.5 i c⟩ λr e=>by cases e
theorem YK{F b}{tmps:Zh}{a:Ending->Vy}(c:w.1[m]?=S (.deferred (S [])))(h:∃v,(JC b tmps).run R_ (w.putObj m<|.deferred U)=.ok v (w.putObj m<|.deferred U)/\a (Rt v) (w.putObj m<|.deferred U)):LeavesInM F n R_ b tmps a [{ target:=.collected m,args:=#[] }] .returning w :=
 ⟨sP,bC ⟨m,_,R,run_takeDeferred c,h⟩⟩
theorem oU(y):J (Iw y)<=2:=by unfold Iw;split<;>split<;>simp
section
inductive Av (tg:N->List N) (a:N):N->Prop
 |root:a≠0->Av tg a 0
 |step {b t:N}:Av tg a b->t∈tg b->t≠a->Av tg a t
inductive Re (tg:N->List N):N->Prop
 |root:Re tg 0
 |step {b t:N}:Re tg b->t∈tg b->Re tg t
structure JO(tg:Yr)(a b:N):Prop where
 ra:Re tg a
 rb:Re tg b
 no:¬Av tg a b
variable{tg:N->Wa}
theorem rp{a b}(h:Av tg a b):Re tg b:=by
 induction h with
 |root=>exact Re.root
 |step _ c _ d=>exact Re.step d c
theorem wX{a b}(h:Av tg a b):b≠a:=by
 cases h with
 |root h=>exact λe=>h e.symm
 |step _ _ h=>exact h
theorem Zd{b}(h:Re tg b):JO tg b b:=⟨h,h,λe=>wX e R⟩
theorem CW{b}(h:Re tg b):JO tg 0 b:=⟨Re.root,h,λe=>by
 have:∀{c},Av tg 0 c->False:=λa=>by
  induction a with
  |root h=>exact h R
  |step _ _ _ d=>exact d
 exact this e⟩
theorem Fq{x a d}(i:Av tg x d)(g:¬Av tg a d):Av tg x a:=by
 induction i with
 |root b=>
  have:a=0:=dQ λe=>g<|Av.root e;rw[this];exact Av.root b
 |@step c t j h b k=>
  by_cases f:Av tg a c
  .have:t=a:=dQ λe=>g<|Av.step f h e;rw[<-this];exact Av.step j h b
  exact k f
theorem J8{a b c}(h:JO tg a b)(k:JO tg b c):JO tg a c:=⟨h.1,k.2,λe=>h.3<|Fq e k.3⟩
theorem Dr{a b}(f:a≠b){c}(h:Re tg c):(Av tg a c/\Av tg b c)\/Av tg b a\/Av tg a b:=by
 induction h with
 |root=>
  by_cases ha:a=0;·subst ha;exact aZ<|bC (Av.root λe=>f e.symm)
  by_cases j:b=0;·subst j;exact aZ<|aZ (Av.root ha)
  exact bC ⟨Av.root ha,Av.root j⟩
 |@step c t _ d k=>
  obtain⟨h1,h2⟩|h|h:=k
  .by_cases g:t=a;·subst g;exact aZ<|bC (Av.step h2 d f)
   by_cases i:t=b;·subst i;exact aZ<|aZ (Av.step h1 d λe=>f e.symm)
   exact bC ⟨Av.step h1 d g,Av.step h2 d i⟩
  .exact aZ<|bC h
  exact aZ<|aZ h
theorem Z1{a b}(h:JO tg a b)(k:JO tg b a):a=b:=dQ (λe=>by
 obtain⟨_,h2⟩|h2|h2:=Dr e h.2;·exact wX h2 R
 .exact k.3 h2
 exact h.3 h2)
inductive Sf (tg:N->List N) (a b x:N):N->Prop
 |here:Sf tg a b x x
 |step {c t:N}:Sf tg a b x c->t∈tg c->t≠a->t≠b->Sf tg a b x t
theorem vp{a b c}(h:Re tg c):(Av tg a c/\Av tg b c)\/Sf tg a b a c\/Sf tg a b b c:=by
 induction h with
 |root=>
  by_cases ha:a=0;·subst ha;exact aZ<|bC Sf.here
  by_cases g:b=0;·subst g;exact aZ<|aZ Sf.here
  exact bC ⟨Av.root ha,Av.root g⟩
 |@step c t _ f i=>
  by_cases d:t=a;·subst d;exact aZ<|bC Sf.here
  by_cases e:t=b;·subst e;exact aZ<|aZ Sf.here
  obtain⟨h1,h2⟩|h|h:=i;·exact bC ⟨Av.step h1 f d,Av.step h2 f e⟩
  .exact aZ<|bC (Sf.step h f d e)
  exact aZ<|aZ (Sf.step h f d e)
theorem rm{a b x c y}(h:Sf tg a b x c)(i:y=a\/y=b)(g:Av tg y x):Av tg y c:=by
 induction h with
 |here=>exact g
 |step _ f d e j=>exact Av.step j f (by obtain rfl|rfl:=i;exact d;exact e)
theorem TY{a b c}(h:JO tg a c)(k:JO tg b c):JO tg a b\/JO tg b a:=by
 obtain⟨h1,_⟩|h1|h1:=vp (a:=a) (b:=b) h.2;·exact Sz h1 h.3
 .exact aZ ⟨k.1,h.1,λe=>k.3<|rm h1 (aZ R) e⟩
 exact bC ⟨h.1,k.1,λe=>h.3<|rm h1 (bC R) e⟩
theorem Gf{n}{y T:Vp}{q:Vv}{r:Yr}(j:∀b x,x<n->(Xh (y b) x=So↔b=0/\x≠0))(k:∀b x,x<n->b<n->(Xh (T b) x=So↔x=b))(o:∀b,q b↔Re tg b)(d:∀b,Re tg b->b<n)(p:∀b s,b<n->(s∈r b↔s<n/\b∈tg s)){b x}(c:x<n):Sp y T q r b x↔Av tg x b:=by
 constructor
 .intro h
  induction h with
  |init h=>
   obtain⟨rfl,u⟩:=(j _ _ c).1 h;exact Av.root u
  |@take b s x f w _ a i=>
   have l:=d b<|(o b).1 f;refine Av.step (i c) ((p b s l).1 w).2 λe=>?_;have:=(k b x c l).2 e.symm;rw[this]at a;cases a
 intro h
 induction h with
 |root h=>exact Sp.init<|(j 0 x c).2 ⟨R,h⟩
 |@step b t f a v i=>
  have m:=rp f;have g:=Re.step m a;refine Sp.take ((o t).2 g) ((p t b<|d t g).2 ⟨d b m,a⟩) i ?_;cases e:Xh (T t) x with
  |false=>rfl
  |true=>exact Sz ((k t x c<|d t g).1 e) λe=>v e.symm
end
section
variable{tg:N->Wa}
def Oh(l:Wa)(x c:N):Prop:=∃a b,l=a++b/\x∈a/\c∈b
theorem EF{l r x a}(h:Oh l x a):Oh (l++r) x a:=by obtain⟨d,e,rfl,b,c⟩:=h;exact⟨d,e++r,sP,b,by simp[c]⟩
theorem DW{l:Wa}{x b}(h:x∈l):Oh (l++[b]) x b:=⟨l,[b],R,h,sP⟩
def PZ(tg:Yr)(P:Wa)(b:N):Prop:=∀a,JO tg a b->a≠b->a∈P
theorem DI:PZ tg [] 0:=λ_ h a=>Sz (Av.root a) h.3
theorem Eb{P b t}(h:PZ tg P b)(c:Re tg b)(f:t∈tg b):PZ tg (b::P) t:=λa ha d=>by
 by_cases e:a=b;·rw[e];exact cI
 exact cN _<|h a ⟨ha.1,c,λk=>ha.3<|Av.step k f λe2=>d e2.symm⟩ e
structure jk(tg:Yr)(P:Wa)(s:Wk×Wa):Prop where
 seen:∀x∈s.2,Xh s.1 x=So
 nd:s.2.Nodup
 all:∀x,Xh s.1 x=So->x∈s.2\/x∈P
 stk:∀x∈P,x∉s.2/\Xh s.1 x=So
 ord:∀x∈s.2,∀a,JO tg a x->a≠x->a∈P\/Oh s.2 x a
 re:∀x∈s.2,Re tg x
 cl:∀x∈s.2,∀t∈tg x,Xh s.1 t=So
theorem Cq{P}{s:Wk×Wa}{c}(h:jk tg P s)(d:Xh s.1 c=Sn):jk tg (c::P) (YH s.1 c,s.2):=by
 have mono:∀x,Xh s.1 x=So->Xh (YH s.1 c) x=So:=λx a=>by rw[Z8,a];simp
 refine⟨λx a=>mono x<|h.1 x a,h.2,λx a=>?_,λx a=>?_,λx a f ha g=>?_,h.6,λx a t i=>mono t<|h.7 x a t i⟩
 .rw[Z8]at a;by_cases e:x=c;·exact aZ<|by rw[e];exact cI
  rw[dJ e,jV]at a;obtain b|b:=h.3 x a;·exact bC b
  exact aZ<|cN _ b
 .rcases cH.1 a with rfl|a;·exact⟨λk=>(by rw[h.1 _ k]at d;cases d),by rw[Z8];simp⟩
  exact⟨(h.4 x a).1,mono x (h.4 x a).2⟩
 obtain b|b:=h.5 x a f ha g;·exact bC<|cN _ b
 exact aZ b
theorem DU{P:Wa}{s:Wk×Wa}{c}(h:jk tg (c::P) s)(m:c∉P)(o:Re tg c)(p:PZ tg P c)(n:∀t∈tg c,Xh s.1 t=So):jk tg P (s.1,s.2++[c]):=by
 have g:=h.4 c cI;refine⟨λx b=>?_,?_,λx b=>?_,λx b=>?_,λx b f ha i=>?_,λx b=>?_,λx b t e=>?_⟩
 .rcases bU.1 b with a|a;·exact h.1 x a
  have:x=c:=by simpa using a
  rw[this];exact g.2
 .rw[gW];refine⟨h.2,sP,λx b y q l=>?_⟩;have:y=c:=by simpa using q
  rw[l,this]at b;exact g.1 b
 .rcases h.3 x b with a|a;·exact bC<|dD _ a
  obtain rfl|a:=cH.1 a;·exact bC sP
  exact aZ a
 .have j:=h.4 x<|cN _ b;refine⟨λk=>?_,j.2⟩;obtain k|k:=bU.1 k;·exact j.1 k
  have:x=c:=by simpa using k
  rw[this]at b;exact m b
 .rcases bU.1 b with a|a
  .rcases h.5 x a f ha i with d|d
   .rcases cH.1 d with rfl|d;·exact aZ<|DW a
    exact bC d
   exact aZ<|EF d
  have:x=c:=by simpa using a
  subst this;exact bC<|p f ha i
 .rcases bU.1 b with a|a;·exact h.6 x a
  have:x=c:=by simpa using a
  rw[this];exact o
 obtain a|a:=bU.1 b;·exact h.7 x a t e
 have:x=c:=by simpa using a
 rw[this]at e;exact n t e
theorem uM{n}(h:∀b,b<n->∀t∈tg b,t<n):∀(m b:N)(s:Wk×Wa)(P:Wa),b<n->XB s.1 n<=m->Re tg b->PZ tg P b->jk tg P s->jk tg P (C9 tg m b s)/\Xh (C9 tg m b s).1 b=So
 |0,b,s,P,hb,a,_,_,hi=>⟨hi,T8 (n:=n) (Nat.le_zero.1 a) hb⟩
 |m+1,b,s,P,hb,a,hr,hs,hi=>by
  cases hh:Xh s.1 b with
  |true=>rw[Vd hh];exact⟨hi,hh⟩
  |false=>
   rw[nY hh];have j:b∉P:=λp=>by rw[(hi.4 b p).2]at hh;cases hh
   have w:=Tb hb hh;have v:∀(l:Wa)(s1:Wk×Wa),(∀t∈l,t∈tg b)->XB s1.1 n<=m->jk tg (b::P) s1->jk tg (b::P) (l.foldl (λs t=>C9 tg m t s) s1)/\∀t∈l,Xh (l.foldl (λs t=>C9 tg m t s) s1).1 t=So:=λl=>by
    induction l with
    |nil=>intro s1 _ _ d;exact⟨d,λt c=>by cases c⟩
    |cons t l o=>
     intro s1 g d i;have c:=g t cI;let⟨e,f⟩:=uM h m t s1 (b::P) (h b hb t c) d (Re.step hr c) (Eb hs hr c) i;let⟨q,r⟩:=o (C9 tg m t s1) (λu a=>g u<|cN _ a) (aJ (JY n λx k=>KB tg m t s1 x k) d) e;refine⟨q,λu a=>?_⟩;obtain rfl|a:=cH.1 a;·exact Ue tg m l _ _ f
     exact r u a
   let⟨e,f⟩:=v (tg b) (YH s.1 b,s.2) (λt c=>c) (by show XB (YH s.1 b) n<=m;omega) (Cq hi hh);refine⟨DU e j hr hs f,?_⟩;exact Ue tg m (tg b) (YH s.1 b,s.2) b (by show Xh (YH s.1 b) b=So;rw[Z8];simp)
theorem ZA(W n):XB W n<=n:=aJ (fJ _ _) sP
theorem ER{n}(l:∀f,f<n->∀t∈tg f,t<n)(g:0<n){m}(k:n<=m):
 (∀x,x∈(C9 tg m 0 (λ_=>0,[])).2↔Re tg x)/\(∀x,Xh (C9 tg m 0 (λ_=>0,[])).1 x=So↔Re tg x)/\(C9 tg m 0 (λ_=>0,[])).2.Nodup/\∀x c,JO tg c x->c≠x->Oh (C9 tg m 0 (λ_=>0,[])).2 x c:=by
 have j:jk tg [] (λ_=>0,[]):=⟨λx a=>(by cases a),iU,λx a=>(by rw[Z3]at a;cases a),λx a=>(by cases a),λx a=>(by cases a),λx a=>(by cases a),λx a=>(by cases a)⟩;let⟨b,i⟩:=uM l m 0 (λ_=>0,[]) [] g (aJ (ZA _ _) k) Re.root DI j;generalize C9 tg m 0 (λ_=>0,[])=s at*;have d:∀x,Xh s.1 x=So->x∈s.2:=λx a=>by
  obtain h|h:=b.3 x a;·exact h
  cases h
 have e:∀x,Re tg x->Xh s.1 x=So:=λx a=>by
  induction a with
  |root=>exact i
  |step _ p q=>exact b.7 _ (d _ q) _ p
 refine⟨λx=>⟨b.6 x,λh=>d x<|e x h⟩,λx=>⟨λh=>b.6 x<|d x h,e x⟩,b.2,λx c ha o=>?_⟩;obtain h|h:=b.5 x (d x<|e x ha.2) c ha o;·cases h
 exact h
end
section
variable{tg:N->Wa}
structure O6(tg:Yr)(a b:N):Prop where
 dom:JO tg a b
 ne:a≠b
 near:∀c,JO tg c b->c≠b->JO tg c a
theorem EU{a b c}(h:O6 tg a c)(k:O6 tg b c):a=b:=Z1 (k.3 a h.1 h.2) (h.3 b k.1 k.2)
theorem Be{l x a}(h:Oh l x a):Oh l.reverse a x:=by obtain⟨d,e,rfl,b,c⟩:=h;exact⟨e.reverse,d.reverse,sP,SK,SJ⟩
theorem qk{l:Wa}(d:l.Nodup){i}(j:i<J l){x}(h:Oh l x l[i]):x∈l.take i:=by
 let⟨a,n,e,f,g⟩:=h;have k:J a<=i:=Nat.le_of_not_lt (λb=>by
  have m:l[i]∈a:=by
   have:l[i]=a[i]:=by
    have c:l[i]?=(a++n)[i]?:=by rw[<-e]
    rw[aC j,dL b,aC b]at c;injection c
   rw[this];exact aH b
  rw[e,gW]at d;exact d.2.2 _ m _ g R)
 rw[e,List.take_append];rw[aW k];exact dD _ f
theorem Dg{l}{p:Ys}{a}(h:l.reverse.find? p=S a):p a=So/\a∈l/\∀c∈l,p c=So->c=a\/Oh l c a:=by
 rw[List.find?_eq_some_iff_append]at h;let⟨k,f,bs,i,j⟩:=h;have b:l=bs.reverse++[a]++f.reverse:=by have:=fI List.reverse i;simpa using this
 refine⟨k,by rw[b];simp,λc g m=>?_⟩;rw[b]at g;obtain d|d:=bU.1 g
 .rcases bU.1 d with e|e;·exact aZ ⟨bs.reverse,[a]++f.reverse,by rw[b,cK],e,sP⟩
  exact bC<|by simpa using e
 have:=j c (by simpa using d);rw[m]at this;cases this
theorem CJ{o:Wa}(d:o.Nodup)(z:∀x,x∈o↔Re tg x)(B:∀x a,JO tg a x->a≠x->Oh o a x){i:N}(t:i<J o){p:Ys}(C:∀a∈o,p a=So↔¬Av tg a o[i]):
 match (o.take i).reverse.find? p with
 |some a=>O6 tg a o[i]
 |none=>∀c,JO tg c o[i]->c=o[i]:=by
 have T:=(z _).1 (aH t);have s:∀a,a∈o->(p a=So↔JO tg a o[i]):=λa ha=>⟨λn=>⟨(z a).1 ha,T,(C a ha).1 n⟩,λn=>(C a ha).2 n.3⟩;have aa:(o.take i).Nodup:=d.sublist<|List.take_sublist _ _;have y:∀c,JO tg c o[i]->c≠o[i]->c∈o.take i:=λc b h=>qk d t<|B o[i] c b h
 have V:o[i]∉o.take i:=λk=>by have e:=(hH i o).symm;have W:o[i]∈o.drop i:=(gZ t)▸cI;rw[e,gW]at d;exact d.2.2 _ k _ W R
 cases hf:(o.take i).reverse.find? p with
 |some a=>
  let⟨L_,r,M_⟩:=Dg hf;have R_:=iO r;have l:=(s a R_).1 L_;have Q_:a≠o[i]:=λe=>V (e▸r);refine⟨l,Q_,λc b h=>?_⟩;have f:=y c b h;obtain e|T_:=M_ c f ((s c<|iO f).2 b);·rw[e];exact Zd l.1
  by_cases v:c=a;·rw[v];exact Zd l.1
  obtain k|k:=TY b l;·exact k
  -- a dominates c: then a stands ahead of c
  exfalso;have N_:=B c a k λe=>v e.symm;have V_:=bR r;let⟨j,X_,H_⟩:=V_;have u:j<J o:=by rw[dH]at X_;omega
  have m:o[j]=a:=by rw[<-H_,jG]
  have O_:c∈o.take j:=by
   have U_:Oh o c o[j]:=by rw[m];let⟨l1,l2,e,k1,k2⟩:=T_;exact⟨l1,l2++o.drop i,by rw[<-cK,<-e,hH],k1,dD _ k2⟩
   exact qk d u U_
  let⟨K,L,I_⟩:=bR O_;have Y_:K<J o:=by rw[dH]at L;omega
  have J_:o[K]=c:=by rw[<-I_,jG]
  have P_:=qk d Y_ (J_▸N_);let⟨q,M,K_⟩:=bR P_;have P:q<J o:=by rw[dH]at M;omega
  have w:o[q]=a:=by rw[<-K_,jG]
  have ab:q=j:=by
   have F:=gY.1 (show o.Pairwise (·≠·)from d);obtain g|g|g:=mA q j;·exact Sz (G w m.symm) (F q j P u g)
   .exact g
   exact Sz (G m w.symm) (F j q u P g)
  rw[dH]at L M;omega
 |none=>
  intro c b;refine dQ λh=>?_;have f:=y c b h;have:=lS.1 hf c (by simpa using f);exact this<|(s c<|iO f).2 b
def NI(c:Wk)(d:N)(e:Wa):Zm:=e.foldl (λb a=>if a≠d/\(b=U\/∃k,b=S k/\c a > c k)then S a else b) U
theorem Cf{d b e}(h:∀a∈e,a=b):NI d b e=U:=by
 unfold NI;have i:∀(l:Wa),(∀a∈l,a=b)->l.foldl (λc a=>if a≠b/\(c=U\/∃k,c=S k/\d a > d k)then S a else c) U=U:=λl=>by
  induction l with
  |nil=>intro _;rfl
  |cons a l g=>
   intro h;rw[iM,aM λk=>k.1<|h a cI];exact g λx f=>h x<|cN _ f
 exact i e h
theorem Co{d a i m}(ha:a∈m)(w:a≠i)(v:∀c∈m,c≠i->c≠a->d c<d a):NI d i m=S a:=by
 unfold NI;have y:∀(l:Wa)(b:Zm),(∀c∈l,c≠i->c≠a->d c<d a)->(b=U\/∃k,b=S k/\(k=a\/d k<d a))->(b=S a\/a∈l)->l.foldl (λb a=>if a≠i/\(b=U\/∃k,b=S k/\d a > d k)then S a else b) b=S a:=λl=>by
  induction l with
  |nil=>
   intro b _ _ h;obtain h|h:=h;·exact h
   cases h
  |cons c l p=>
   intro b t j h;rw[iM];have o:=λz x=>t z<|cN _ x;by_cases q:c=a
   .subst q;by_cases s:b=S c
    .subst s;rw[aM λk=>by obtain k|⟨r,e,f⟩:=k.2;cases k;injection e with e;rw[e]at f;omega];exact p _ o j<|bC R
    rw[aU ⟨w,by obtain j|⟨r,e,f⟩:=j;exact bC j;exact aZ ⟨r,e,by obtain f|f:=f;exact Sz (G e<|by rw[f]) s;exact f⟩⟩];exact p _ o (aZ ⟨c,R,bC R⟩) (bC R)
   have g:b=S a\/a∈l:=by
    obtain h|h:=h;·exact bC h
    obtain h|h:=cH.1 h;·exact Sz h.symm q
    exact aZ h
   by_cases n:c≠i/\(b=U\/∃k,b=S k/\d c > d k)
   .rw[aU n];have u:=t c cI n.1 q;refine p _ o (aZ ⟨c,R,aZ u⟩) ?_;obtain g|g:=g
    .exfalso;obtain k|⟨r,e,f⟩:=n.2;·rw[g]at k;cases k
     rw[g]at e;injection e with e;rw[<-e]at f;omega
    exact aZ g
   rw[aM n];exact p _ o j g
 exact y m U v (bC R) (aZ ha)
end
theorem Qg:(prog.info? 221).map (λi=>(i.8,i.3,i.4))=S (S<|Si .u64 0,1,8):=vZ
theorem P5(f:N)(h:f=118\/f=143)(g K x W)(w:Ub)(d:Q (XA W))(b:Q (w.rowIs g 221 K λj=>Si .u64 (W j)))(u:x<64*K)(hK:K<=1000):Sk prog f #[Sa #[Hl g K K],H x] w λe k=>e=Rt (Sb (Xh W x))/\Sw (Z w.1) w k:=by
 have n:=rh x;have p:=rg x;have hq:x/64<K:=O;have s:x%64<64:=dS _ vY;have a:=b.cell hq;have i:=b.lt;have q:=λo=>oB (Xb (dC (Z w.1) w) o) a i;have c:Q ((bits .and .u64 ((W (x/64):I)/2^(x%64)) 1==1)=Xh W x):=Y<|ux (d _);generalize r:x/64=l at*;generalize t:x%64=v at*;generalize W l=m at*;obtain rfl|rfl:=h
 go_in
 rotate_left
 go_in
 rotate_left
 all_goals (
  go_wp2;go_ret
  exact⟨AM c,Xb Rf _⟩)
theorem Ps(f:N)(c:f=128\/f=117\/f=177)(a:N)(w:Ub)(k:a<=60000):Sk prog f #[H a] w λe b=>∃g,e=Rt (Sa #[Hl g ((a+63)/64) ((a+63)/64)])/\Z w.1<=g/\Sw (Z w.1) w b/\b.rowIs g 221 ((a+63)/64) (λ_=>Si .u64 ((0:N):I)):=by
 have i:=fM (P:=prog) 121 221 (Si .u64 0) 8 underlying121 Qg R S6 S6 ((a+63)/64) O O;have hq:((a:I)+63).tdiv 64=(((a+63)/64:N):I):=by rw[fY O];omega
 have j:((a:I)+64-1)=(a:I)+63:=O;have hK:(a+63)/64<=1000:=O;generalize (a+63)/64=K at*;obtain rfl|rfl|rfl:=c
 go_in
 rotate_left
 go_in
 rotate_left
 go_in
 rotate_left
 all_goals (
  go_wp2;refine YL (v:=Sa #[Hl (Z w.1+1) K K]) ?_;refine⟨Z w.1+1,R,O,Xb (Xb Rf _) _,?_⟩;have d:=λh=>by have:=dG (D w h) (Si .u64 0) K 221;rwa[aO]at this
  exact d _)
theorem Pu(f:N)(y:f=126\/f=119\/f=179)(g K C n c W m)(a:Wa)(L B w)(ha:Q (Xf w L B m<|a.map Int.ofNat))(v:Q (n=J a))(hn:n<=4000)(z:Q (∀t∈a,t<64*K))(hK:K<=1000)(F:Q (XA W))(s:Q (Cp w g K C W))(X_:B<=Z w.1)(aa:¬(L<=g/\g<B)):
 Sk prog f #[Sa #[Hl g K C],X m n c] w λe x=>e=Rt (St #[])/\w.grownBy x (S g)/\Cp x g K C (E2 W a):=by
 obtain rfl|rfl|rfl:=y
 go_in
 rotate_left
 go_in
 rotate_left
 go_in
 rotate_left
 all_goals (
  go_wp2;have hg:=s.lt
  go_loopw [8] (λu wr=>∃q:N,q<=n/\u=H q/\Q (w.grownBy wr<|S g)/\E wr (A (Z w.1) 0)=S (Hl g K C)/\Q (Cp wr g K C<|E2 W (a.take q))) λu _=>n-(JB u).toNat
  .exact⟨0,aN,R,Y<|bW _ _ _,sP,Y<|s.alloc _⟩
  case round=>
   obtain⟨q,hq,rfl,h,M,b⟩:=hrel;by_cases ab:q<n
   .have l:q<J a:=oN v.o
    obtain⟨o,P,rfl,Y_,p⟩:=ha q (by simpa using l);have k:=G (Xc<|h.5 o O λe=>by injection e with e;omega) p;rw[cM]at k;have af:=z _<|aH l;have T:=Y<|VW (W:=W) l;have V:=Y<|Zs (a.take q) F;generalize a[q]=t at*;have U_:=rh t;have V_:=rg t;have R_:Cl wr o (P+q) (H t):=k;generalize E2 W (a.take q)=j at*;have r:t/64<K:=O;have J_:t%64<64:=dS _ vY;have S_:=b.cell r;have T_:=b.frozen;have z_:=Y<|tZ J_ (V<|t/64);have y_:Q (∀i,(if i=t/64 then j (t/64)|||2^(t%64)else j i)=E2 W (a.take<|q+1) i):=Y (λi=>by
     rw[T.o];unfold YH;by_cases e:i=t/64;·rw[aU e,aU e,e]
     rw[aM e,aM e])
    generalize Z_:t/64=d at*;generalize ac:t%64=Q_ at*;go_wp2;go_region;go_wp2;rw[z_.o];have O_:wr.grownBy (Se wr (A g d) (Si .u64 ((j d|||2^Q_:N):I))).drew (S g):=⟨R,R,R,by simp[World.setCell,World.drew],λal _ I_=>cY λe=>I_<|by rw[e]⟩;refine⟨⟨q+1,O,gM,Y (h.andThen O_ λaj H_=>by cases H_;exact aZ R),?_,Y ?_⟩,SA⟩;·exact G (bH wr (A g d) (A (Z w.1) 0) _ (by show g≠Z w.1;omega)) M
    refine Cp.drew ((b.set d _ r).congr λi _=>?_);rw[<-y_.o i]
   have ad:q=n:=O;have E_:Q (a.take q=a):=Y<|aW (oN v.o);rw[E_.o]at b;go_wp2
   go_end0
   exact⟨R,h,b⟩)
theorem P8(l:N)(L:l=129\/l=244)(g b c K C n k x F T w)(r:Q (XA x))(m:Q (XA F))(P:Q (XA T))(hK:K<=1000)(z:Q (Cp w g K C x))(y:Q (Cp w b K n F))(M:Q (Cp w c K k T))(V:c≠g)(W:Q (b=g->x=F)):
 Sk prog l #[Sa #[Hl g K C],Sa #[Hl b K n],Sa #[Hl c K k]] w λe B=>e=Rt (Sb (Ix x F T K))/\w.grownBy B (S g)/\Cp B g K C (NR x F T):=by
 obtain rfl|rfl:=L
 go_in
 rotate_left
 go_in
 rotate_left
 all_goals (
  go_wp2;have l1:=z.lt;have Y_:=y.lt;have Z_:=M.lt
  go_loopw [7,14] (λG_ u wr=>∃q:N,q<=K/\u=H q/\G_=Sb (Ix x F T q)/\Q (w.grownBy wr<|S g)/\E wr (A (Z w.1) 0)=S (Hl g K C)/\E wr (A (Z w.1+2) 0)=S (Hl c K k)/\Q (Cp wr g K C λi=>if i<q then NR x F T i else x i)) λ_ u _=>K-(JB u).toNat
  .exact⟨0,aN,R,by rw[AK],Y (((bW w _ _).andThen (bW _ _ _) λv d=>aZ d).andThen (bW _ _ _) λv d=>aZ d),SC,SC,Y<|(((z.alloc _).alloc _).alloc _).congr λi _=>sP⟩
  case round=>
   obtain⟨q,hq,rfl,rfl,f,U_,V_,h⟩:=hrel;by_cases j:q<K
   .have e1:Cl wr g q (Si .u64 (x q)):=G (h.cell j) sP
    have e3:=G (Xc<|f.5 c Z_ λe=>V<|by injection e) (M.cell j);have e2:E wr (A b q)=S (Si .u64 (F q)):=by
     by_cases e:b=g;·rw[<-W.o e,e];exact e1
     exact G (Xc<|f.5 b Y_ λE_=>e<|by injection E_) (y.cell j)
    have ez:=h.frozen;have aa:=kM (F q) (T q) (m q) (P q);have P_:F q&&&(18446744073709551615-T q)<18446744073709551616:=iC jB<|m q;have ab:bits .andNot .u64 ((F q&&&(18446744073709551615-T q):N):I) (x q:I)=((NT x F T q:N):I):=kM _ (x q) P_ (r q);have ac:bits .or .u64 (x q:I) ((NT x F T q:N):I)=((NR x F T q:N):I):=u64_or_nat _ _ (r q) (WR m q);have o:=Y<|AL x F T q;have W_:g≠Z w.1:=O;have X_:g≠Z w.1+2:=O;have p:Q (Cp (Se wr (A g q) (Si .u64 (NR x F T q:I))) g K C λi=>if i<q+1 then NR x F T i else x i):=Y ((h.set q _ j).congr (λi _=>by
     by_cases e:i=q;·subst e;simp
     rw[aM e];by_cases e2:i<q;·rw[aU e2,aU O]
     rw[aM e2,aM O]))
    have x_:wr.grownBy (Se wr (A g q) (Si .u64 (NR x F T q:I))) (S g):=⟨R,R,R,SH,λaf _ N_=>cY λe=>N_<|by rw[e]⟩;have a:=Y (f.andThen x_ λv d=>by cases d;exact aZ R);have s:=G (bH wr (A g q) (A (Z w.1) 0) (Si .u64 (NR x F T q:I)) W_) U_;have t:=G (bH wr (A g q) (A (Z w.1+2) 0) (Si .u64 (NR x F T q:I)) X_) V_;generalize J_:F q&&&(18446744073709551615-T q)=ad at*;generalize NR x F T q=Bq at*;generalize NT x F T q=D_ at*;generalize x q=Sq at*;generalize F q=Oq at*;generalize T q=Tq at*;generalize Ix x F T q=F_ at*;cases F_ with
    |true=>
     go_wp2;go_region;go_wp2;exact⟨⟨q+1,O,gM,by rw[o.o];rfl,Y ⟨a.1,a.2,a.3,a.4,a.5⟩,s,t,Y p.drew⟩,SA⟩
    |false=>
     go_wp2;go_region;go_wp2;exact⟨⟨q+1,O,gM,by rw[o.o];cases D_<;>rfl,Y ⟨a.1,a.2,a.3,a.4,a.5⟩,s,t,Y p.drew⟩,SA⟩
   have Q_:q=K:=O;subst Q_;go_wp2;go_ret
   exact⟨R,f,h.congr λi M_=>by rw[aU M_]⟩)
abbrev Ty:=@Ps 128<|bC R
abbrev ZG:=@Pu 126<|bC R
abbrev Tv:=@P8 129<|bC R
abbrev Jm:=@P5 118<|bC R
abbrev Tt:=@Ps 117<|aZ (bC R)
abbrev Tz:=@Pu 119<|aZ (bC R)
theorem XL(w:Ub)(b)(h:n≠m)(v:Uj):E (Se w ⟨b,n,U⟩ v) ⟨b,m,U⟩=E w ⟨b,m,U⟩:=cJ<|by intro e;injection e with _ e2;exact h e2
theorem d6{p o}{d:Act}{K:Tf}{q:Yt}{r:Prop}(y:o.6=U)(s x)(t:TypeId)(B:o.2=.call { callee:=.builtin .append,args:=#[s,x],argTypes:=#[t,t] })(h)(e:TypeId)(i:TypeInfo)(z:Uj)(a bytes)(V:R_.underlying t=S (.slice e))(C:R_.info? e=S i)(F:i.8=S z)(T:i.3=a)(L:i.4=bytes)(M:Z z.cells=a)(P:0<a)(v:Uj)(n)(k:Wo)(W:d.eval s=v)(O_:Sx w h e a v n k)(j m c)(f:Wo)(X_:d.eval x=X (S j) m c)(L_:J f=m*a)(M_:∀l u,f[l]?=S u->E w (j.add l)=S u)(r_:∀u∈f,u.oneCell'=So)(D_:n+m<=maxLen)(H_:(n+m)*bytes<=140737488355328)(F_:h<=Z w.1)(q_:∀b g,Sx g h e a b (n+m) (k++f)->w.grownBy g v.ownBlock->(b=X U 0 0↔v=X U 0 0/\m=0)->(b.ownBlock=v.ownBlock\/b.ownBlock=S (Z w.1))->K (d.put o.1 b) g):
 if Region.wanted o (yielded p d.1)=So then Oper.wp R_ o d w K q else r:=by
 have W_:Region.wanted o (yielded p d.1)=So:=by simp[Region.wanted,y]
 rw[aU W_];let⟨b,g,P_,y_,A_,B_,C_⟩:=kI (P:=R_) w h t o.3 e i z a bytes V C F T L M P v n k O_ j m c f L_ M_ r_ D_ H_ F_;unfold Oper.wp execOp;simp only[B,resolve,invoke,builtin,lG,lH,jE,jN,eH,fZ,W,X_,P_];exact q_ b g y_ A_ B_ C_
theorem Xq(h:(R_.info? n).map (λi=>(i.8,i.3,i.4))=S (S a,m,k)):∃i,R_.info? n=S i/\i.8=S a/\i.3=m/\i.4=k:=by
 cases hi:R_.info? n with
 |none=>rw[hi]at h;cases h
 |some i=>
  rw[hi]at h;simp only[jY,Option.some.injEq,jC]at h;exact⟨i,R,h.1,h.2.1,h.2.2⟩
theorem Yf(w:Ub)(u:Uj)(b:N):∀j x,([u]:Wo)[j]?=S x->E (D w<|Sc #[u] b) ((⟨Z w.1,0,U⟩:Addr).add j)=S x:=λj x a=>by
 have ha:((A (Z w.1) 0):Addr).add j=(A (Z w.1) j):=by unfold Addr.add;split<;>simp_all
 rw[ha]
 match j,a with
 |0,a=>simpa using a
 |j+1,a=>cases a
def Ng(a:Wy):Wo:=a.flatMap λm=>[Si S6 m.1,Si S6 m.2]
theorem xO{m}{a:Wy}:Ng (m::a)=[H m.1,H m.2]++Ng a:=R
theorem nf{a b}:Ng (a++b)=Ng a++Ng b:=by simp[Ng]
theorem yh:∀a:Wy,J (Ng a)=J a*2
 |[]=>R
 |m::a=>by rw[xO,aQ,yh a];simp;omega
theorem rX:∀(a:Wy)(i:N)(h:i<J a),(Ng a)[i*2]?=S (H a[i].1)/\(Ng a)[i*2+1]?=S (H a[i].2)
 |[],i,h=>Sz h sP
 |m::a,0,_=>⟨R,R⟩
 |m::a,i+1,h=>by have:=rX a i SI;rw[xO];rw[show(i+1)*2=i*2+1+1 by omega];simpa using this
theorem ja:((A n 0):Addr).add m=(A n m):=by unfold Addr.add;split<;>simp_all
theorem Jj(h:Sx w n m k (Hl B g c) g y){u:Uj}(a:y[j]?=S u):E w (A B j)=S u:=by have:=h.cells (g:=B) R j u a;rw[ja]at this;exact this
theorem ol(h:Sx w n m k (Hl B g c) g y)(o):w.frozen? (A B o)=Sn:=by
 obtain⟨e2,_⟩|⟨g',cap,cur,e2,_,hh,_⟩:=h.2;·cases e2
 injection e2 with e3;injection e3 with e3;injection e3 with e4;subst e4;simp[World.frozen?,hh]
theorem Vc(h:Sx w n m k a B y):(a=X U 0 0/\B=0/\y=[])\/∃g c,a=X (S ⟨g,0,U⟩) B c/\(n<=g/\g<Z w.1)/\B<=c:=by
 obtain⟨e1,e2⟩|⟨g,cap,cur,e1,hb,hh,hc,_⟩:=h.2
 .refine bC ⟨e1,e2,iE ?_⟩;rw[h.1,e2,lC]
 exact aZ ⟨g,cap,e1,⟨hb,(aS.1 hh).1⟩,hc⟩
theorem m9{b}(h:Sx w n m 2 a k (Ng b)):∃e c,a=X e (J b) c/\k=J b/\J b<=c/\gj w n (Z w.1) e b:=by
 have f:=h.1;rw[yh]at f;have j:k=J b:=O;subst j;obtain⟨rfl,h0,_⟩|⟨g,c,rfl,hg,hc⟩:=Vc h
 .have:b=[]:=iE h0;subst this;exact⟨U,0,R,R,aA,λi d=>Sz d sP⟩
 refine⟨_,c,R,R,hc,λi d=>⟨g,0,R,hg,?_,?_⟩⟩;·rw[aV];exact Jj h (rX b i d).1
 rw[aV];exact Jj h (rX b i d).2
theorem RA:(prog.info? 176).map (λi=>(i.8,i.3,i.4))=S (S<|Sa #[H 0,H 0],2,16):=vZ
theorem sJ(w:Ub):Sx (D w<|Sc #[] 176) (Z w.1) 176 2 (X (S ⟨Z w.1,0,U⟩) 0 0) 0 (Ng []):=by have:=eI (base:=Z w.1) (e:=176) (size:=2) w #[] 0 sP sP R;simpa [Ng]using this
theorem ng(w:Ub):∀j u,([Si S6 t,Si S6 T]:Wo)[j]?=S u->E (D w<|Sc #[Si S6 t,Si S6 T] n) ((⟨Z w.1,0,U⟩:Addr).add j)=S u:=λj u a=>by
 rw[ja]
 match j,a with
 |0,a=>simpa using a
 |1,a=>simpa using a
 |j+2,a=>cases a
theorem IY(c){a}(ha:Q (gj w k B p a))(s:Q (n=J a))(K:n<=64)(T:m<n)(L:B<=Z w.1):
 Sk prog 191 #[X p n c,H m] w λr t=>∃v,r=Rt v/\Sw (Z w.1) w t/\Sx t (Z w.1) 176 2 v (J (a.eraseIdx m)) (Ng<|a.eraseIdx m):=by
 go_in
 go_wp2
 go_loopw [5,6] (λv u wr=>∃j:N,j<=n/\u=H j/\Q (Sw (Z w.1) w wr)/\Q (Sx wr (Z w.1) 176 2 v (J ((a.take j).eraseIdx m)) (Ng<|(a.take j).eraseIdx m))) λ_ u _=>n-(JB u).toNat
 .exact⟨0,aN,R,Y<|Xb Rf _,Y<|by rw[lK];exact sJ w⟩
 obtain⟨j,M,rfl,b,d⟩:=hrel;have aa:=b.4;by_cases V:j<n
 .have o:j<J a:=oN s.o;obtain⟨W,ab,rfl,S_,h,i⟩:=ha j o;have C_:=G (XU b O) h;have e1:=G (XU b O) i;have f:=Y<|bN o;have g:Q (J ((a.take j).eraseIdx m)<=64):=Y (aJ (List.length_eraseIdx_le _ _) SB);by_cases C:j=m
  .have e:Q ((a.take<|j+1).eraseIdx m=(a.take j).eraseIdx m):=Y (by
    rw[f.o,Jb SB,zM (l:=a.take j) SB];have:m-J (a.take j)=0:=SB
    rw[this];simp)
   subst C;go_wp2;exact⟨⟨j+1,O,gM,b,Y<|by rw[e.o];exact d⟩,SA⟩
  have V_:¬((j:I)=m):=O
  have e:Q ((a.take<|j+1).eraseIdx m=(a.take j).eraseIdx m++[a[j]]):=Y (by
   rw[f.o];by_cases W_:m<j;·rw[List.eraseIdx_append_of_lt_length<|by simp;omega]
   rw[Jb SB,zM (l:=a.take j) SB]
   rw[zM<|by simp;omega])
  generalize H_:a[j]=F at*;let⟨O_,D_⟩:=F;dsimp only at*;generalize (a.take j).eraseIdx m=ys at*;go_wp2_with (at_builtin;refine YC RA d ?_ (oN g.o))
  intro v1 P q l I_ E_;have y:Q (Sx P (Z w.1) 176 2 v1 (J ((a.take<|j+1).eraseIdx m)) (Ng<|(a.take<|j+1).eraseIdx m)):=Y (by rw[e.o,nf,aQ];exact q)
  have x:=Y (Xy ((b).alloc O _) l (d.alloc _) aA SB);go_wp2;exact⟨⟨j+1,O,gM,x,y⟩,SA⟩
 have X_:j=n:=O;have z:=Y (by have:=d.o;rwa[aW<|oN s.o]at this);go_wp2;go_ret;exact⟨_,R,b,z⟩
theorem TW(h:Sx w n m k a g y)(b:w.grownBy v (S B))(c:B<n):Sx v n m k a g y :=
 h.kept b (by
  cases e:a.ownBlock with
  |none=>exact bC R
  |some d=>exact aZ λe2=>by cases e2;have:=(h.lt _ e).1;omega)
theorem pj(h:Sx w n m k (Hl B g c) g y)(j:v.1[B]?=w.1[B]?):Sx v n m k (Hl B g c) g y:=by
 obtain⟨a,h|⟨o,l,b,e,f,i,d⟩⟩:=h;·exact⟨a,bC h⟩
 cases e;exact⟨a,aZ ⟨B,c,b,R,f,G j i,d⟩⟩
theorem qO(h:Sx w n m k (X (S ⟨B,0,U⟩) g c) g y)(u:Uj):Sx (Se w ⟨B,i,U⟩ u) n m k (X (S ⟨B,0,U⟩) g c) g (y.set i u):=by
 obtain⟨l,b|⟨s,r,a,e,f,j,d,o,p,q⟩⟩:=h;·cases b.1
 cases e;refine⟨by rw[bL];exact l,aZ ⟨B,c,a.setIfInBounds i u,R,f,?_,d,o,by rw[jS];exact p,?_⟩⟩;·exact heap_setCell_same w B i a m u j
 rw[Array.toList_setIfInBounds,List.take_set,q]
theorem Xm(h:Sx w n m k a B y)(b:0<B):∃g c,a=X (S ⟨g,0,U⟩) B c/\(n<=g/\g<Z w.1)/\B<=c:=by
 obtain⟨_,m,_⟩|h:=Vc h;·omega
 exact h
theorem Zv(h:0<=t):∃m:N,t=m:=⟨t.toNat,O⟩
def Je(L:Wa):Wo:=L.map λ(x:N)=>Si S6 (x:I)
theorem VP:Je (s++[n])=Je s++[H n]:=by simp[Je]
theorem UY(w:Ub)(b:N):Xf (D w<|Sc #[Si S6 (b:I)] n) (Z w.1) (Z w.1+1) (S ⟨Z w.1,0,U⟩) ([b].map Int.ofNat):=λi a=>by
 have:i=0:=by simpa using a
 subst this;exact⟨_,0,R,⟨aA,iJ⟩,sP⟩
theorem KJ(t:Yj):J t.tg<=2:=by
 unfold Yj.tg;split;·simp
 split<;>simp
structure YW(w:Ub)(bS gS BL K:N)(ab:Uy)(nb cb:N)(W:Wk)(v:Uj)(L:Wa):Prop where
 c0:E w ⟨bS,0,U⟩=S (X ab nb cb)
 c1:E w ⟨bS,1,U⟩=S (X (S ⟨gS,0,U⟩) K K)
 c2:E w ⟨bS,2,U⟩=S v
 thaw:∀q,w.frozen? ⟨bS,q,U⟩=Sn
 row:w.rowIs gS 221 K λi=>Si .u64 (W i)
 own:Sx w BL 2 1 v (J L) (Je L)
 lb:bS<BL
 lg:gS<BL
 ne:bS≠gS
 sz:BL<=Z w.1
structure Vh(w w':Ub)(bS gS:N)(v v':Uj):Prop where
 os:w'.4=w.4
 tape:w'.2=w.2
 output:w'.5=w.5
 size:Z w.1<=Z w'.1
 block:∀k,k<Z w.1->k≠bS->k≠gS->S k≠v.ownBlock->w'.1[k]?=w.1[k]?
 own:v'.ownBlock=v.ownBlock\/∀k,v'.ownBlock=S k->Z w.1<=k
theorem Vh.refl(w a b v):Vh w w a b v v:=⟨R,R,R,aA,λ_ _ _ _ _=>R,bC R⟩
theorem Vh.trans{v1 v2}(h:Vh w v n m a v1)(k:Vh v u n m v1 v2):Vh w u n m a v2:=by
 refine⟨G k.1 h.1,G k.2 h.2,G k.3 h.3,aJ h.4 k.4,λj d f g i=>?_,?_⟩
 .refine G (k.5 j (aX d h.4) f g λe=>?_) (h.5 j d f g i);obtain b|b:=h.6;·exact i<|by rw[e,b]
  have:=b j e.symm;omega
 obtain c|c:=k.6
 .rcases h.6 with b|b;·exact bC<|G c b
  exact aZ λj e=>b j<|by rw[<-c];exact e
 exact aZ λj e=>aJ h.4<|c j e
theorem Vh.of_below(h:Sw (Z w.1) w v):Vh w v n m a a:=⟨h.1,h.2,h.3,h.4,λk b _ _ _=>h.5 k b,bC R⟩
theorem Vh.of_grown(h:w.grownBy v (S m)):Vh w v n m a a:=⟨h.1,h.2,h.3,h.4,λk b _ c _=>h.5 k b λe=>c (by injection e),bC R⟩
theorem YW.below(h:YW w n m k B p g i f a s)(b:Sw (Z w.1) w v):YW v n m k B p g i f a s:=by
 have l:=h.sz;have d:=b.5 n<|oN h.7;have c:∀q,E v (A n q)=E w (A n q):=λq=>bZ d;refine⟨G (c 0) h.1,G (c 1) h.2,G (c 2) h.3,λq=>G (bJ d) (h.4 q),h.5.of_block<|b.5 m (oN h.8),?_,h.7,h.8,h.9,aJ l b.4⟩;refine h.6.kept (row:=U) ⟨b.1,b.2,b.3,b.4,λj e _=>b.5 j e⟩ ?_;cases a.ownBlock with
 |none=>exact bC R
 |some j=>exact aZ sP
theorem YW.seen(h:YW w n m k B p g i f a s)(c:w.grownBy v (S m))(j:v.rowIs m 221 B λo=>Si .u64 (F o)):YW v n m k B p g i F a s:=by have l:=h.sz;have d:=c.5 n (oN h.7) (λe=>h.9<|by injection e);have b:∀q,E v (A n q)=E w (A n q):=λq=>bZ d;exact⟨G (b 0) h.1,G (b 1) h.2,G (b 2) h.3,λq=>G (bJ d) (h.4 q),j,TW h.6 c h.8,h.7,h.8,h.9,aJ l c.4⟩
theorem YW.push{r:Obj}(h:YW w n m k B p g i f a s)(c:(D w r).grownBy v a.ownBlock)(M:Sx v k 2 1 A_ (J s+1) (Je s++[Si S6 (j:I)]))(F:A_.ownBlock=a.ownBlock\/A_.ownBlock=S (Z w.1+1)):
 YW (Se v ⟨n,2,U⟩ A_) n m k B p g i f A_ (s++[j])/\Vh w (Se v ⟨n,2,U⟩ A_) n m a A_/\E v ⟨n,2,U⟩=S a/\v.frozen? ⟨n,2,U⟩=Sn:=by
 have L:=h.sz;have o:=h.7;have y:=h.8;have K:Z (D w r).1=Z w.1+1:=aO _ _;have W:=c.4;have z:∀b,b<k->S b≠a.ownBlock:=λb x e=>by have:=(h.6.lt b e.symm).1;omega
 have ha:∀b,b<Z w.1->(D w r).1[b]?=w.1[b]?:=λb x=>gF _ _ _ x;have u:=G (c.5 n O<|z _ o) (ha _ O);have P:=G (c.5 m O<|z _ y) (ha _ O);have d:∀q,E v (A n q)=E w (A n q):=λq=>bZ u;have t:=λq=>G (bJ u) (h.4 q);refine⟨⟨G (XL _ _ O _) (G (d 0) h.1),G (XL _ _ O _) (G (d 1) h.2),fQ _ _ _<|G (d 2) h.3,λq=>by rw[eX];exact t q,(h.5.of_block P).setOther (λe=>h.9 e.symm) _,?_,o,y,h.9,SF⟩,⟨?_,?_,?_,SF,λb C T I_ V=>?_,?_⟩,G (d 2) h.3,t 2⟩
 .rw[VP,aQ];exact ke M o _
 .exact c.1
 .exact c.2
 .exact c.3
 .rw[cY T];exact G (c.5 b O V) (ha b C)
 obtain e|e:=F;·exact bC e
 exact aZ λb l=>by rw[e]at l;injection l with l;omega
theorem Vh.blks(d:Vh w v n m a A_)(h:YW w n m k B p g i f a s)(q:Xp w j c p x)(l:¬(j<=n/\n<c))(o:¬(j<=m/\m<c))(r:c<=k):Xp v j c p x:=by have t:=h.sz;exact q.keepS λb u y=>d.5 b O (λe=>l O) (λe=>o O) λe=>by have:=(h.6.lt b e.symm).1;omega
theorem VY(g d u K M V B)(bd:Q (m=J x))(hn:m<=1000)(hK:m<=64*n)(ck:n<=100)(S_:¬(V<=g/\g<B))(T_:¬(V<=d/\d<B))(U_:B<=u)(hT:Q (∀aa∈x,∀t∈aa.3.tg,0<=t/\t<m)):
 ∀(c b:N)(W:Wk)(v:Uj)(L:Wa)(w:Ub),Q (YW w g d u n M m K W v L)->Q (Xp w V B M x)->b<m->Q (XB W m<=c)->Q (XA W)->J L+XB W m<=m ->
 Sk prog 65 #[Hn g,H b] w λi w'=>i=Rt (St #[])/\∃r,Vh w w' g d v r/\YW w' g d u n M m K (C9 (X8 x) c b (W,L)).1 r (C9 (X8 x) c b (W,L)).2:=by
 intro c
 induction c with
 |zero=>
  intro b W v L w f J_ F Q_ z hL;have HH:Q (Xh W b=So):=Y<|T8 (oN Q_.o) F;have h:=Y<|Jm d n b W w z (Y f.5) O O;rw[HH.o]at h;have c1:=f.2
  go_in
  go_wp2_with fail
  refine YU h λe j=>?_;have k:=Y<|f.below j;have y:Q (Vh w e g d v v):=Y<|Vh.of_below j;clear j h c1;go_wp2_with fail
  refine YL (v:=St #[]) ?_;exact⟨R,v,y,k⟩
 |succ c ih=>
  intro b W v L w f J_ F Q_ z hL;have IH:=Y ih;clear ih;cases hh:Xh W b with
  |true=>
   have ap:=Y hh;clear hh;have h:=Y<|Jm d n b W w z (Y f.5) O O;rw[ap.o]at h;have c1:=f.2
   go_in
   go_wp2_with fail
   refine YU h λe j=>?_;have k:=Y<|f.below j;have y:Q (Vh w e g d v v):=Y<|Vh.of_below j;clear j h c1;go_wp2_with fail
   refine YL (v:=St #[]) ?_;rw[Vd (s:=(W,L)) ap.o];exact⟨R,v,y,k⟩
  |false=>
   have O_:=Y hh;clear hh;have c0:=f.1;have c1:=f.2;have c2:=f.3;have h:=Y<|Jm d n b W w z (Y f.5) O O;rw[O_.o]at h
   go_in
   go_wp2_with fail
   refine YU h λe j=>?_;have k:=Y<|f.below j;have y:Q (Vh w e g d v v):=Y<|Vh.of_below j;clear j h c0 c1 c2;have c0:=k.1;have c1:=k.2;go_wp2_with fail
   have P_:=Y<|k.below (Xb Rf (Sc #[H b] 205));have aj:Q (Vh e (D e<|Sc #[H b] 205) g d v v):=Y<|Vh.of_below (Xb Rf _);have aq:Q (Xf (D e<|Sc #[H b] 205) (Z e.1) (Z e.1+1) (S ⟨Z e.1,0,U⟩) ([b].map Int.ofNat)):=Y<|UY e b;have be:Z e.1+1<=Z (D e<|Sc #[H b] 205).1:=sP;have b5:d<Z e.1:=oP k.8 k.sz
   generalize D e _=wa at*;have bp:Q (∀t∈[b],t<64*n):=Y (λt o=>by
    have:t=b:=by simpa using o
    omega)
   refine YU (Tz d n n 1 1 W _ [b] (Z e.1) (Z e.1+1) wa aq (Y R) O bp O z (Y<|Cp.of_row P_.5) be O) λP⟨V_,ba⟩=>?_;have l:Q (YW P g d u n M m K (YH W b) v L):=Y<|P_.seen V_ ba.to_row;have M_:=Y<|(y.trans aj).trans (Vh.of_grown V_);have ad:=Y<|M_.blks f J_ S_ T_ U_;have a2:=Y<|Tb (W:=W) (n:=m) F O_;have K_:=Y<|nY (tg:=X8 x) (m:=c) (s:=(W,L)) O_;clear V_ ba y k be b5 c0 c1;have A_:b<J x:=oN bd.o;obtain⟨bb,cg,rfl,cm,pa,pc,ia,ic,-,-,⟨t0,t1,t2,t3⟩,-,-⟩:=ad b A_;have c0:=l.1;have a1:=Y<|hT.o _ (aH A_);rw[Km A_]at K_;dsimp only at K_;generalize x[b].3=tm at*;go_wp2_with fail
   refine(J4 tm P).mono ?_;rintro i w3⟨ci,cj,rfl,T,a7⟩;have ar:=Y<|l.below T;have af:=Y<|M_.trans (Vh.of_below T);have bl:=Y a7;have bf:=Y<|af.blks f J_ S_ T_ U_;have ch:=Y T.4;have bm:=Y λcf i=>(l.6.lt cf i).2;have ao:Q (d<Z P.1/\g<Z P.1):=Y ⟨oP l.8 l.sz,oP l.7 l.sz⟩;clear T a7 t0 t1 t2 t3 c0;have cr:=KJ tm;generalize ca:tm.tg=a at*;clear ca;have bv:Q (∀t∈a.map Int.toNat,t<m):=Y (λt o=>by obtain⟨ac,Z_,rfl⟩:=aY.1 o;have:=a1 ac Z_;omega)
   have br:Q (∀b,b<m->∀t∈X8 x b,t<m):=Y (λb F t o=>by
    have A_:b<J x:=oN bd.o
    rw[Km A_]at o;obtain⟨ac,Z_,rfl⟩:=aY.1 o;have:=hT _ (aH A_) ac Z_;omega)
   have b0:=Y<|oV z b;have b3:XB (YH W b) m<=c:=oP Q_.o a2.o;have cl:J L+XB (YH W b) m+1<=m:=oN a2.o;go_wp2
   go_loopw [29] (λH_ wr=>∃q:N,q<=J a/\H_=H q/\∃r,Q (Vh w3 wr g d v r)/\Q (YW wr g d u n (S ⟨bb,cg,U⟩) m K (((a.map Int.toNat).take q).foldl (λs t=>C9 (X8 x) c t s) (YH W b,L)).1 r (((a.map Int.toNat).take q).foldl (λs t=>C9 (X8 x) c t s) (YH W b,L)).2)) λH_ _=>J a-(JB H_).toNat
   .exact⟨0,aN,R,v,Y<|Vh.refl _ _ _ _,ar⟩
   obtain⟨q,hq,rfl,r,C,p⟩:=hrel;have N_:Q (J (((a.map Int.toNat).take q).foldl (λs t=>C9 (X8 x) c t s) (YH W b,L)).2+XB (((a.map Int.toNat).take q).foldl (λs t=>C9 (X8 x) c t s) (YH W b,L)).1 m<=J L+XB (YH W b) m):=Y (DF (X8 x) br c _ λt o=>bv t<|iO o);by_cases X_:q<J a
   .obtain⟨bt,ot,rfl,b4,a3⟩:=bl q X_;have et:=G (Xc (C.5 bt b4.2 (oN ao.o) (oN ao.o) λi=>by have:=bm bt i.symm;omega)) a3;have b8:=a1 a[q] (aH X_);have a0:Q ((a.map Int.toNat).take (q+1)=(a.map Int.toNat).take q++[a[q].toNat]):=Y (by rw[bN (by simpa using X_),cM]);have b1:=Y<|Ei (X8 x) c ((a.map Int.toNat).take q) (YH W b,L) b0;have bh:=Y<|C.blks ar bf S_ T_ U_;have bx:Q (XB (((a.map Int.toNat).take q).foldl (λs t=>C9 (X8 x) c t s) (YH W b,L)).1 m<=c):=Y (aJ (JY m λaa hx=>Ue (X8 x) c _ (YH W b,L) aa hx) b3);have al:Q (((a.map Int.toNat).take (q+1)).foldl (λs t=>C9 (X8 x) c t s) (YH W b,L)=C9 (X8 x) c a[q].toNat (((a.map Int.toNat).take q).foldl (λs t=>C9 (X8 x) c t s) (YH W b,L))):=Y (by rw[a0.o,dT];rfl);clear a3;generalize a[q]=tq at*;obtain⟨tn,rfl⟩:=Zv b8.1;rw[dM]at al;have HC:=Y<|IH.o tn _ r _ wr p bh O bx b1 (oN N_.o);generalize ((a.map Int.toNat).take q).foldl (λs t=>C9 (X8 x) c t s) (YH W b,L)=sq at*;let⟨Wq,Lq⟩:=sq;dsimp only at*;go_wp2_with fail
    refine YU HC λw5⟨v5,a5,bc⟩=>?_;have bi:=Y<|C.trans a5;have bq:=Y bc;clear a5 bc;go_wp2;exact⟨⟨q+1,O,gM,v5,bi,Y<|by rw[al.o];exact bq⟩,SA⟩
   have cq:q=J a:=O;have az:Q ((a.map Int.toNat).take q=a.map Int.toNat):=Y (aW<|by simp;omega);rw[az.o]at p N_;generalize (a.map Int.toNat).foldl (λs t=>C9 (X8 x) c t s) (YH W b,L)=sq at*;let⟨Wq,Lq⟩:=sq;dsimp only at*;have c2:=p.3;have zz:=p.4 2;have cn:J Lq<=1000:=oN N_.o;have cs:=p.sz;go_wp2_with (at_builtin;refine YC RH p.6 ?_)
   intro v8 w8 Y_ a6 b7 a4;let⟨a8,a9,co,cp⟩:=p.push a6 Y_ a4;obtain⟨g8,k8,rfl,-,-⟩:=Xm Y_ O;have bn:=Y a8;have bo:=Y a9;clear a8 a9 Y_ a6 b7 a4;go_wp2
   go_end0
   exact⟨R,_,(af.trans C).trans bo,by rw[K_.o];exact bn⟩
inductive OR (tg:N->List N) (z:I):N->Prop
 |root:z≠0->OR tg z 0
 |step {b t:N}:OR tg z b->t∈tg b->(t:I)≠z->OR tg z t
theorem Fc{tg:Yr}:OR tg n m↔Av tg n m:=by
 constructor
 .intro h
  induction h with
  |root h=>exact Av.root λe=>h O
  |step _ b a c=>exact Av.step c b λe=>a O
 intro h
 induction h with
 |root h=>exact OR.root λe=>h O
 |step _ b a c=>exact OR.step c b λe=>a O
theorem rf{tg:Yr}(c:t<0):OR tg t n↔Re tg n:=by
 constructor
 .intro h
  induction h with
  |root _=>exact Re.root
  |step _ a _ b=>exact Re.step b a
 intro h
 induction h with
 |root=>exact OR.root O
 |step _ a b=>exact OR.step b a O
structure PU(tg:Yr)(n:N)(z:I)(F:Wa)(i:N):Prop where
 nd:F.Nodup
 av:∀x∈F,OR tg z x
 lt:∀x∈F,x<n
 root:z≠0->0∈F
 nil:z=0->F=[]
 cl:∀k (h:k<J F),k<i->∀t∈tg F[k],(t:I)≠z->t=0\/t∈F
theorem YS(h:s.Nodup)(a:∀x∈s,x<n):J s<=n:=by have:=kV h (l₂:=Rg n) λx b=>bE.2<|a x b;simpa using this
theorem Ek{tg}(h:PU tg n t s m)(q:J s<=m)(x):x∈s↔OR tg t x:=by
 refine⟨h.2 x,λi=>?_⟩
 induction i with
 |root b=>exact h.4 b
 |@step o l p g f j=>
  let⟨k,a,e⟩:=bR j;obtain c|d:=h.6 k a O l (by rw[e];exact g) f
  .rw[c];refine h.4 λb=>?_;rw[h.5 b]at a;exact Sz a sP
  exact d
theorem TS{T:Type}{C:T->Uj}{f:N->T}(h:w.rowIs n m k λz=>C<|f z)(r v):(Se w ⟨n,r,U⟩ (C v)).rowIs n m k (λz=>C<|if z=r then v else f z) :=
 (h.set r<|C v).congr (λz _=>by by_cases e:z=r<;>simp[e])
theorem UC{T:Type}{C:T->Uj}{f a:N->T}(h:w.rowIs n m k λz=>C<|f z)(e:∀z,z<k->f z=a z):w.rowIs n m k (λz=>C<|a z):=h.congr λz b=>by rw[e z b]
theorem Q7:(prog.info? 4).map (λi=>(i.8,i.3,i.4))=S (S<|Sb Sn,1,1):=vZ
structure O5(tg:Yr)(n:N)(z:I)(F F':Wa)(i q:N)(ts:Wc):Prop where
 pre:∃E_,F'=F++E_
 nd:F'.Nodup
 av:∀x∈F',OR tg z x
 lt:∀x∈F',x<n
 now:∀k (h:k<J ts),k<q->ts[k]≠z->ts[k]=0\/ts[k].toNat∈F'
theorem CQ{tg}(h:PU tg n t s m):O5 tg n t s s m 0 l:=⟨⟨[],sP⟩,h.1,h.2,h.3,λk _ a=>Sz a O⟩
theorem Da{tg}(h:O5 tg n t s S_ m k l)(hq:k<J l)(f:l[k]=t\/l[k]=0\/l[k].toNat∈S_):O5 tg n t s S_ m (k+1) l:=⟨h.1,h.2,h.3,h.4,λc d g b=>by
 by_cases e:c=k
 .subst e;obtain a|a|a:=f;·exact Sz a b
  .exact bC a
  exact aZ a
 exact h.5 c d O b⟩
theorem Du{tg}(h:O5 tg n t s S_ m k l)(hq:k<J l)(j:l[k]=B)(u:B<n)(q:(B:I)≠t)(g:B∉S_)(d:m<J s)(o:B∈tg s[m]):O5 tg n t s (S_++[B]) m (k+1) l:=by
 let⟨v,e⟩:=h.1;refine⟨⟨v++[B],by rw[e,cK]⟩,?_,λx b=>?_,λx b=>?_,λc f r i=>?_⟩
 .rw[gW]
  exact⟨h.2,sP,λx b y p e2=>g (by
   have:y=B:=by simpa using p
   rw[<-this,<-e2];exact b)⟩
 .rcases bU.1 b with a|a;·exact h.3 x a
  have:x=B:=by simpa using a
  rw[this];exact OR.step (h.3 s[m] (by rw[e];exact dD _<|aH d)) o q
 .rcases bU.1 b with a|a;·exact h.4 x a
  have:x=B:=by simpa using a
  omega
 by_cases e2:c=k
 .subst e2;exact aZ<|by rw[j];simp
 obtain a|a:=h.5 c f O i;·exact bC a
 exact aZ<|dD _ a
theorem CV{tg}(h:O5 tg n t s S_ m k l)(j:PU tg n t s m)(K:t≠0)(C:m<J s)(hq:J l<=k)(y:tg s[m]=l.map Int.toNat)(u:∀d∈l,0<=d):PU tg n t S_ (m+1):=by
 let⟨L,g⟩:=h.1;have o:∀x∈s,x∈S_:=λx z=>by rw[g];exact dD _ z
 refine⟨h.2,h.3,h.4,λf=>o 0<|j.4 f,λf=>Sz f K,λb w M d c p=>?_⟩;have e:b<J s:=O;have r:S_[b]=s[b]:=by
  have i:S_[b]?=(s++L)[b]?:=by rw[g]
  rw[aC w,dL e,aC e]at i;injection i
 rw[r]at c;by_cases e2:b=m
 .subst e2;rw[y]at c;obtain⟨P,q,rfl⟩:=aY.1 c;obtain⟨B,v,rfl⟩:=bR q;have F:=u _ q;obtain a|a:=h.5 B v O (λe3=>p O);·exact bC<|by rw[a];rfl
  exact aZ a
 obtain a|a:=j.6 b e O d c p;·exact bC a
 exact aZ<|o d a
theorem Ck(w:Ub)(c:0<n):(D w<|Sc ((madeCells #[Sb Sn] n).setIfInBounds 0 (Sb So)) 4).rowIs (Z w.1) 4 n (λx=>Sb (Jd (x=0\/x∈[0]))):=by
 have h:=eK w ((madeCells #[Sb Sn] n).setIfInBounds 0 (Sb So)) 4 (λx=>Sb (Jd (x=0\/x∈[0]))) (λi a=>by
  rw[jS,nA]at a;rw[Array.getElem?_setIfInBounds];by_cases e:0=i;·subst e;simp[c,nA]
  have b:¬i=0:=λh=>e h.symm
  have e1:=Nat.mod_one i;simp[e,b,madeCells,a,e1])
 rw[jS,nA]at h;exact h
theorem qt(vl:I)(c:N)(z:I)(ha:Q (Xp w m k p x))(Z_:Q (n=J x))(hn:n<=1000)(bp:0<n)(hB:k<=Z w.1)(hT:Q (∀b∈x,∀t∈b.3.tg,0<=t/\t<n)):
 Sk prog 92 #[Sa #[H vl,X p n c],H z] w λe s=>∃v F,e=Rt v/\Sw (Z w.1) w s/\Sx s (Z w.1) 2 1 v (J F) (Je F)/\F.Nodup/\∀b,b∈F↔OR (X8 x) z b:=by
 have dw:=fM (P:=prog) 89 4 (Sb Sn) 1 underlying89 Q7 R S6 S6 n O O;have ab:=λco=>(dG co (Sb Sn) n 4).cell bp;by_cases W:z=0
 .subst W;have ar:=λo1 o2=>ab<|D (D w o1) o2;simp only[aO]at ar;clear ab
  go_in
  go_wp2
  go_loopw [5,7] (λv u wr=>v=Hl (Z w.1+1) 0 0/\u=H 0/\Q (Sw (Z w.1) w wr)/\Q (Z w.1+1<Z wr.1)/\Q (Sx wr (Z w.1) 2 1 (Hl (Z w.1+1) 0 0) 0 [])) λ_ _ _=>0
  .exact⟨R,R,Y<|Xb (Xb (Xb Rf _) _) _,Y sP,Y (World.ownsRow.alloc (by have h:=eI (base:=Z w.1) (e:=2) (size:=1) (D w<|Sc #[H vl,X p n c] 45) #[] 0 sP sP R;rw[aO]at h;exact h) _)⟩
  obtain⟨rfl,rfl,R_,HZ,y⟩:=hrel;go_wp2;go_ret
  refine⟨_,[],R,R_,y,iU,λb=>⟨λh=>(by cases h),λh=>?_⟩⟩;exfalso;have:∀{c},OR (X8 x) 0 c->False:=λhc=>by
   induction hc with
   |root h=>exact h R
   |step _ _ _ ih=>exact ih
  exact this h
 have eb:(z==0)=Sn:=by simpa using W
 go_in
 go_wp2_with (at_builtin;refine YC RH (K5 w _) ?_)
 intro v1 l a0 ac cz cq;have bi:Cl l (Z w.1) 1 (X p n c):=G (Xc<|ac.5 (Z w.1) SB (by simp[Value.ownBlock])) SC;have a1:=Y ((Xb (Xb (Xb Rf _) _) _).grown ac SB λa e=>by simp[Value.ownBlock]at e;omega);have af:Q (Z w.1+2<Z l.1):=Y (by have:=ac.4;simp only[aO]at this;omega);obtain⟨g1,k1,rfl,bl,du⟩:=Xm a0 O;have a7:Q (Sx l (Z w.1+1) 2 1 (Hl g1 (0+1) k1) (J [0]) (Je [0])):=Y a0;have cs:=bl.2;clear a0 ac cz cq bl;have ar:=ab l;clear ab;go_wp2_with fail
 have ci:=Y<|Ck l bp;have ce:=Y<|a7.alloc (Sc ((madeCells #[Sb Sn] n).setIfInBounds 0 (Sb So)) 4);have b4:Q (Sw (Z w.1) w<|D l (Sc ((madeCells #[Sb Sn] n).setIfInBounds 0 (Sb So)) 4)):=Y<|Xb a1 _;have b7:Q (E (D l<|Sc ((madeCells #[Sb Sn] n).setIfInBounds 0 (Sb So)) 4) (A (Z w.1) 1)=S (X p n c)):=Y (G (bP _ _ _ (by have:=af.o;show Z w.1<_;omega)) bi);have b8:Q (g1≠Z l.1):=Y O;have ca:Q (Z w.1+1<Z l.1):=Y<|oN af.o;clear ar bi cs;generalize D l _=w2 at*;generalize Z l.1=g at*
 go_loopw [5,7] (λv u wr=>∃(F:Wa)(i:N),u=H i/\i<=J F/\Q (PU (X8 x) n z F i)/\Q (Sw (Z w.1) w wr)/\Q (E wr (A (Z w.1) 1)=S (X p n c))/\Q (wr.rowIs g 4 n λb=>Sb (Jd (b=0\/b∈F)))/\Q (v.ownBlock≠S g)/\Q (Sx wr (Z w.1+1) 2 1 v (J F) (Je F))) λ_ u _=>n+1-(JB u).toNat
 .exact⟨[0],0,R,aN,Y ⟨sP,λb Z_=>by
  have:b=0:=by simpa using Z_
  subst this;exact OR.root W,λb Z_=>by
  have:b=0:=by simpa using Z_
  omega,λ_=>sP,λh=>Sz h W,λa _ hk=>Sz hk O⟩,b4,b7,ci,Y (by simp[Value.ownBlock];exact b8),ce⟩
 obtain⟨F,i,rfl,hi,K,R_,HC,HS,HN,y⟩:=hrel;have dj:=YS K.1 K.3;by_cases ad:i<J F;rotate_left
 .have cv:i=J F:=O;subst cv;have cp:=eJ<|K.4 W;obtain⟨gv,kv,rfl,ct,cx⟩:=Xm y cp;go_wp2;go_ret;exact⟨_,F,R,R_,Zk y O,K.1,Ek K<|aA⟩
 obtain⟨gv,kv,rfl,ct,cx⟩:=Xm y O;have di:=K.3 F[i] (aH ad);have ao:F[i]<J x:=oN Z_.o;have ef:=Jj y (j:=i) (u:=H (F[i]:I)) (by simp[Je,ad]);have df:=hB;obtain⟨C,P_,rfl,dl,pa,pc,ia,ic,-,-,⟨t0,t1,t2,t3⟩,-,-⟩:=(ha.keep<|R_.mono hB) F[i] ao;have bf:=HC.o;have bd:=Y<|hT.o _ (aH ao);have bc:=Y<|Km ao;have bx:=y.lt gv R;generalize bh:F[i]=T at*;have a4:=Y bh;clear bh;generalize x[T].3=L at*;have V:Q (Z w.1+1<=Z wr.1/\g<Z wr.1):=Y ⟨O,HS.lt⟩;go_wp2_with fail
 refine Y7 (λs=>E s (A (Z w.1) 1)=S (Hm C P_ n c)/\E s (A gv i)=S (H T)/\E s (A C<|P_+T*6+2)=S (H L.1)/\E s (A C<|P_+T*6+2+1)=S (H L.a)/\E s (A C<|P_+T*6+2+2)=S (H L.3)/\E s (A C<|P_+T*6+2+3)=S (H L.4)) λig=>?_;refine Xn 0 ?_;(iterate 8 refine Rm ?_);refine Xs 9 λdb hK=>?_;go_simp
 go_at_call 103
 refine(ZO L _).mono ?_;rintro e M⟨be,dc,rfl,M_,bn⟩;have o:Sw (Z wr.1) wr M:=⟨M_.1,M_.2,M_.3,M_.4,M_.5⟩;have aq:C<Z wr.1:=oN V.o;have kc:=λq=>o.cell (p:=A C q) aq;refine hK _ _ ⟨oB o bf (by have:=V.o;show Z w.1<_;omega),oB o ef bx.2,G (kc _) t0,G (kc _) t1,G (kc _) t2,G (kc _) t3⟩ λig=>?_;clear hK kc aq
 refine Xn 10 ?_;refine Yq ?_;have bo:Xf M (Z wr.1) (Z M.1) be L.tg:=bn;have a2:=Y<|Xg R_ o;have a3:=Y (oB o HC (by have:=V.o;show Z w.1<_;omega));have a9:=Y<|HS.of_block (o.5 g V.2);have a8:=Y<|pj y (o.5 gv bx.2);have a6:=Y bo;have cm:=Y o.4;clear M_ bn o bo t0 t1 t2 t3 ef bf ig;generalize bv:L.tg=j at*;have dz:J j<=2:=by rw[<-bv];exact KJ L
 clear bv;go_wp2_with fail
 generalize wr=wo at*
 go_loopw [5,9] (λv u Q_=>∃(f:Wa)(q:N),u=H q/\q<=J j/\Q (O5 (X8 x) n z F f i q j)/\Q (Sw (Z w.1) w Q_)/\Q (E Q_ (A (Z w.1) 1)=S (Hm C P_ n c))/\Q (Q_.rowIs g 4 n λb=>Sb (Jd (b=0\/b∈f)))/\Q (v.ownBlock≠S g)/\Q (Xf Q_ (Z wo.1) (Z M.1) be j)/\Q (∀a,v.ownBlock=S a->a<Z wo.1\/Z M.1<=a)/\Q (Z M.1<=Z Q_.1)/\Q (Sx Q_ (Z w.1+1) 2 1 v (J f) (Je f))) λ_ u _=>J j-(JB u).toNat
 .exact⟨F,0,R,aN,Y<|CQ K,a2,a3,a9,HN,a6,Y (λa e=>by simp only[Value.ownBlock,Option.some.injEq]at e;exact bC O),Y<|aA,a8⟩
 obtain⟨f,q,rfl,hq,J_,S_,T_,B,K_,U_,aa,aj,L_⟩:=hrel;have dk:=YS J_.2 J_.4;by_cases X_:q<J j;rotate_left
 .have cg:=Y (CV J_ K W ad O (by rw[a4.o];exact bc) λt ht=>(bd t ht).1);have cw:i+1<=J f:=by let⟨da,e⟩:=J_.1;rw[e,aQ];omega
  go_wp2;exact⟨⟨f,i+1,gM,cw,cg,S_,T_,B,K_,L_⟩,SA⟩
 obtain⟨bt,ot,rfl,dn,et⟩:=U_ q X_;have c8:=bd j[q] (aH X_);have ba:=Y<|Da J_ X_;have cl:Q (∀t:N,j[q]=(t:I)->t∈X8 x T):=Y (λt e=>by rw[bc.o];exact aY.2 ⟨j[q],aH X_,by rw[e];rfl⟩);have ck:Q (∀t:N,j[q]=(t:I)->t<n->(t:I)≠z->t∉f->t∈X8 x F[i]->O5 (X8 x) n z F (f++[t]) i (q+1) j):=Y λt e1 e2 e3 e4 e5=>Du J_ X_ e1 e2 e3 e4 ad e5;generalize j[q]=tq at*;obtain⟨d,rfl⟩:=Zv c8.1;have br:d<n:=O;have al:=B.cell br;have dd:=B.frozen;by_cases r:(d:I)=z
 .have hb:((d:I)==z)=So:=by simpa using r
  have cr:((d:I) != z)=Sn:=by simp[r]
  have V_:=Y<|ba.o (bC r);clear r al;go_wp2;exact⟨⟨f,q+1,gM,O,V_,S_,T_,B,K_,U_,aa,aj,L_⟩,SA⟩
 have hb:((d:I)==z)=Sn:=by simpa using r
 have cr:((d:I) != z)=So:=by simp[r]
 by_cases N_:d=0\/d∈f
 .rw[eB N_]at al;have V_:=Y (ba.o<|aZ (by obtain h|h:=N_;exact bC O;exact aZ<|by simpa using h));clear N_ r;go_wp2;exact⟨⟨f,q+1,gM,O,V_,S_,T_,B,K_,U_,aa,aj,L_⟩,SA⟩
 rw[dJ N_]at al
 have V_:=Y (ck.o d R br r (λh=>N_<|aZ h) (by rw[a4.o];exact cl d R));have cj:Q (∀b,b<n->(if b=d then So else Jd (b=0\/b∈f))=Jd (b=0\/b∈f++[d])):=Y (λb _=>by
  by_cases e:b=d;·subst e;simp
  simp[e])
 clear N_ r;have ea:=aj.o;have c9:bt≠g:=oN V.2;have ec:g≠bt:=λe=>c9 e.symm;have aq:bt<Z wr.1:=O;have a5:=Y B.lt;have d0:Z w.1+1<=Z wr.1:=oP V.o cm.o;go_wp2_with (at_builtin;refine YC RH (fS L_ (a:=(A g d)) K_ (Sb So)) ?_)
 intro v8 w8 bq W_ c6 ap;have c7:=W_.4;rw[aO,Xd]at c7;have blk:∀a,a<Z wr.1->a≠g->(∀P,u5.ownBlock=S P->a≠P)->w8.1[a]?=wr.1[a]?:=λa h1 h2 h3=>by refine G (W_.5 a (by rw[aO,Xd];omega) λe=>h3 a e.symm R) ?_;rw[gF _ _ _<|by rw[Xd];exact h1];exact cY h2
 have az:=λP e=>(L_.lt P e).1
 have ds:=ca.o;have b5:=Y (((vT (S_.setCell (by show Z w.1<=g;omega) _) SF _).grown W_ (by rw[aO,Xd];omega) λa e=>by have:=az a e;omega));have b6:=Y (G (Xc (blk (Z w.1) O O λP e=>by have:=az P e;omega)) T_);have ch:=Y (UC (C:=Sb) (((TS (C:=Sb) B d So).alloc _).of_block (W_.5 g (by rw[aO,Xd];have:=a5.o;omega) λe=>K_ e.symm)) cj);have cd:Q (v8.ownBlock≠S g):=Y (λe=>by
  obtain h|h:=ap;·exact K_<|G h.symm e
  rw[e]at h;injection h with h;have:=a5.o;omega)
 have cb:=Y (U_.keepS λa h1 h2=>blk a O (oN V.2) λP e=>by obtain h|h:=aa.o P e<;>omega);have cc:Q (∀a,v8.ownBlock=S a->a<Z wo.1\/Z M.1<=a):=Y (λa e=>by
  obtain h|h:=ap;·exact aa a<|G h.symm e
  rw[e]at h;injection h with h;exact aZ O)
 have cn:Q (Z M.1<=Z w8.1):=Y O;have cf:Q (Sx w8 (Z w.1+1) 2 1 v8 (J (f++[d])) (Je<|f++[d])):=Y (by rw[VP,aQ];exact bq);clear bq W_ c6 ap blk az L_ B T_ S_ U_;go_wp2;exact⟨⟨f++[d],q+1,gM,O,V_,b5,b6,ch,cd,cb,cc,cn,cf⟩,SA⟩
structure cy(t:N)(w:Ub)(G_ n K:N)(gs cp:Wk)(Ws:Vp):Prop where
 row:w.rowIs G_ t n λi=>X (S ⟨gs i,0,U⟩) K (cp i)
 set:∀i,i<n->Cp w (gs i) K (cp i) (Ws i)
 inj:∀i j,i<n->j<n->gs i=gs j->i=j
 o:∀i,i<n->gs i≠G_
abbrev Ye(w:Ub)(b n K:N)(a:Wk):=cy 123 w b n K a λ_=>K
abbrev XK:=cy 126
theorem Q8:(prog.info? 123).map (λi=>(i.8,i.3,i.4))=S (S<|Sa #[Hq],1,24):=vZ
theorem Q9:(prog.info? 126).map (λi=>(i.8,i.3,i.4))=S (S<|Sa #[Hq],1,24):=vZ
theorem J9{P:Yh}(t e:TypeId)(z:Uj)(a bytes)(g:P.underlying t=S (.slice e))(d:(P.info? e).map (λi=>(i.8,i.3,i.4))=S (S z,a,bytes))(n)(l:bytes*n<=281474976710656)(k:n<=9223372036854775807)(w:Ub):
 (Instr.makeSlice t (Si S6 (n:I)) (Si S6 (n:I))).run P w=.ok (X (S ⟨Z w.1,0,U⟩) n n) (D w<|Sc (madeCells z.cells<|n*a) e):=by
 let⟨i,c,hq⟩:=Option.map_eq_some_iff.1 d;simp only[jC]at hq;let⟨j,f,b⟩:=hq;have h:=run_make (P:=P) w t e i z g c j S6 S6 n n O (zP _) (by rw[b,<-Int.natCast_mul];omega) O;simp only[dM,f]at h;exact h
structure o7(t:N)(w wr:Ub)(G_ n K q:N)(gs:Wk):Prop where
 low:Sw (Z w.1) w wr
 base:Z w.1<=G_
 row:wr.rowIs G_ t n λi=>if i<q then X (S ⟨gs i,0,U⟩) K K else X U 0 0
 set:∀i,i<q->wr.rowIs (gs i) 221 K λ_=>Si .u64 ((0:N):I)
 inj:∀i j,i<q->j<q->gs i=gs j->i=j
 up:∀i,i<q->G_<gs i
theorem o7.next{wr}(h:o7 n w wr m k B g f)(hq:g<k)(c:Sw (Z wr.1) wr v)(q:Z wr.1<=i)(p:v.rowIs i 221 B λ_=>Si .u64 ((0:N):I)):
 o7 n w (Se v ⟨m,g,U⟩ (X (S ⟨i,0,U⟩) B B)) m k B (g+1) (λa=>if a=g then i else f a)/\E v ⟨m,g,U⟩=S (X U 0 0)/\v.frozen? ⟨m,g,U⟩=Sn:=by
 have o:=h.3.lt;have l:=h.3.of_block<|c.5 m o;have d:=λa b=>(h.4 a b).lt;refine⟨⟨(h.1.trans<|c.mono h.1.4).setCell h.2 _,h.2,(l.set g _).congr λa _=>?_,λa b=>?_,λa j b r e=>?_,λa b=>?_⟩,G (l.cell hq) sP,l.frozen g⟩
 .by_cases e:a=g;·subst e;simp
  rw[aM e];by_cases e2:a<g;·rw[aU e2,aU O];simp[e]
  rw[aM e2,aM O]
 .by_cases e:a=g;·rw[aU e];exact p.setOther (by show i≠m;omega) _
  rw[aM e];have:=h.6 a O;exact((h.4 a O).of_block (c.5 _<|d a O)).setOther (by show f a≠m;omega) _
 .by_cases e1:a=g
  .by_cases e2:j=g;·rw[e1,e2]
   rw[aU e1,aM e2]at e;have:=d j O;omega
  by_cases e2:j=g
  .rw[aM e1,aU e2]at e;have:=d a O;omega
  rw[aM e1,aM e2]at e;exact h.5 a j O O e
 by_cases e:a=g
 .show m<if a=g then i else f a
  rw[aU e];omega
 show m<if a=g then i else f a
 rw[aM e];exact h.6 a O
theorem P1(h j t e:N)(f:(h=122/\j=128/\t=126/\e=127)\/h=230/\j=117/\t=123/\e=344)(n d:N)(w:Ub)(F:n<=1000)(C:d<=60000):
 Sk prog h #[H n,H d] w λg r=>∃L c,g=Rt (Hl L n n)/\Z w.1<=L/\Sw (Z w.1) w r/\cy t r L n ((d+63)/64) c (λ_=>(d+63)/64) (λ_ _=>0)/\(∀i,i<n->Z w.1<=c i):=by
 have o:∀(_:e=e),_:=λ_=>J9 (P:=prog) e t (Sa #[Hq]) 1 24 (by obtain⟨_,_,rfl,rfl⟩|⟨_,_,rfl,rfl⟩:=f;exact underlying127;exact underlying344) (by obtain⟨_,_,rfl,rfl⟩|⟨_,_,rfl,rfl⟩:=f;exact Q9;exact Q8) n O O;replace o:=o R;have s:=Y<|dG w Hq n t;have v:=Y (λW=>Ps j (by obtain k|k:=f<;>simp[k.2.1]) d W C);generalize (d+63)/64=K at*;obtain⟨rfl,rfl,rfl,rfl⟩|⟨rfl,rfl,rfl,rfl⟩:=f
 go_in
 rotate_left
 go_in
 rotate_left
 all_goals (
  go_wp2
  go_loopw [11] (λu wr=>∃q:N,q<=n/\u=H q/\∃c,Q<|o7 _ w wr (Z w.1) n K q c) λu _=>n-(JB u).toNat
  .exact⟨0,aN,R,λ_=>0,Y ⟨Xb Rf _,aA,by simpa [Value.cells]using s.o,λi a=>Sz a O,λi P a=>Sz a O,λi a=>Sz a O⟩⟩
  case round=>
   obtain⟨q,hq,rfl,c,b⟩:=hrel;by_cases M:q<n
   .go_wp2_with fail
    refine(v wr).mono ?_;rintro g T⟨V,rfl,z,m,p⟩;have y:=b.next M m z p;let⟨l,E_,H_⟩:=y;have x:=Y l;go_wp2;exact⟨⟨q+1,O,gM,_,x⟩,SA⟩
   have B:q=n:=O;subst B;go_wp2;go_ret
   refine⟨_,c,R,aA,b.1,⟨b.3.congr λi a=>by rw[aU a],λi a=>Cp.of_row<|b.4 i a,b.5,λi a g=>by have:=b.6 i a;omega⟩,λi a=>by have:=b.6 i a;omega⟩)
abbrev Th:=@P1 230 117 123 344<|aZ ⟨R,R,R,R⟩
abbrev Ti:=@P1 122 128 126 127<|bC ⟨R,R,R,R⟩
def oe(L a:Wc)(i:N):Prop:=J a=J L/\∀k (h:k<J L),a[k]?=S (if k<i\/J L<=k+i then L[J L-1-k]else L[k])
theorem DR(L):oe L L 0:=⟨R,λk h=>by rw[aM O,aC h]⟩
theorem Dw(h:oe l L n)(b:J l<=2*n+1):L=l.reverse:=by
 refine iG λk=>?_;by_cases a:k<J l
 .rw[h.2 k a,List.getElem?_reverse a,aC O];split;·rfl
  have e:J l-1-k=k:=O;simp only[e]
 rw[dK (by rw[h.1];omega),dK<|by rw[jQ];omega]
theorem DC(h:oe l L n)(d:2*n+1<J l)(a:n<J L)(b:J l-1-n<J L):oe l ((L.set n L[J l-1-n]).set (J l-1-n) L[n]) (n+1):=by
 refine⟨by rw[bL,bL];exact h.1,λk c=>?_⟩;have e1:=h.2 n O;have e2:=h.2 (J l-1-n) O;rw[aC a,aM O]at e1;rw[aC b,aM O]at e2;injection e1 with e1;injection e2 with e2;rw[kG,bL];by_cases c1:J l-1-n=k
 .subst c1;rw[aU R,aU b,aU O,e1];have e:J l-1-(J l-1-n)=n:=O;simp only[e]
 rw[aM c1,kG];by_cases c2:n=k
 .subst c2;rw[aU R,aU a,aU O,e2]
 rw[aM c2,h.2 k c];by_cases c3:k<n\/J l<=k+n;·rw[aU c3,aU O]
 rw[aM c3,aM O]
theorem TM(W:m<=1000000)(t:Q (m=J l))(K:Q (Sx w k 2 1 (Hl n m c) m (l.map<|Si S6))):
 Sk prog 174 #[Hl n m c] w λe x=>e=Rt (St #[])/\w.grownBy x (S n)/\Sx x k 2 1 (Hl n m c) m (l.reverse.map<|Si S6):=by
 go_in
 go_wp2
 go_loopw [2,3] (λu v wr=>∃(i:N)(a:Wc),u=H i/\v=H ((m:I)-1-i)/\2*i<=m/\Q (oe l a i)/\Q (w.grownBy wr<|S n)/\Q (Sx wr k 2 1 (Hl n m c) m (a.map<|Si S6))) λu _ _=>m-(JB u).toNat
 .exact⟨0,l,R,gM,O,Y<|DR l,Y ⟨R,R,R,aA,λ_ _ _=>R⟩,K⟩
 obtain⟨i,a,rfl,rfl,J_,d,h,b⟩:=hrel;by_cases N_:2*i+1<m
 .have C:=t.o;have M:=d.1;let⟨j,f⟩:∃j:N,(m:I)-1-i=j:=⟨m-1-i,O⟩;have g:j=J l-1-i:=O;have q:i<J a:=O;have P:J l-1-i<J a:=O;have B:j<J a:=O;have p:=Y<|DC d O q P;have e1:=Jj b (j:=i) (u:=H a[i]) (by simp[q]);have e2:=Jj b (j:=j) (u:=H a[j]) (by simp[B]);have P_:=ol b;have o:Q (a[J l-1-i]=a[j]):=Y (by simp only[g]);rw[o.o,<-g]at p;have K_:i<j:=O;have M_:j<m:=O;have L:i<m:=O;have r:(j:I)-1=(m:I)-1-(i+1:N):=O;have z:=Y r;have I_:∀v,E (Se wr (A n i) v) (A n j)=S (H a[j]):=λv=>G (XL _ _ O _) e2;clear C M g r o;rw[f];generalize a[i]=T at*;generalize a[j]=V at*;go_wp2;go_region;go_wp2;have F:wr.grownBy (Se (Se wr (A n i) (H V)) (A n j) (H T)).drew (S n):=⟨R,R,R,by simp[World.setCell,World.drew],λQ_ _ s=>G (cY λe=>s<|by rw[e]) (cY λe=>s<|by rw[e])⟩;refine⟨⟨i+1,_,gM,by rw[z.o],O,p,Y (h.andThen F λj f=>by cases f;exact aZ R),Y ?_⟩,SA⟩;rw[mN,mN];exact qO (qO b _) _
 have y:=Y<|Dw d (oN t.o);go_wp2
 go_end0
 exact⟨R,h,by rw[<-y.o];exact b⟩
theorem Aq(t:Q (Xf w B g (S ⟨n,m,U⟩) l))(u:Q (k=J l))(C:k<=1000000000)(r:g<=Z w.1):
 Sk prog 173 #[Hm n m k c] w λq i=>∃v,q=Rt v/\Sw (Z w.1) w i/\v≠Hq/\Sx i (Z w.1) 2 1 v (J l) (l.map<|Si S6):=by
 let⟨F,s,x,y,z⟩:=fX RH;have M:∀(w:Ub)(a:Uy)(k c d b:N),(binOp .eql 23 (X a k c) (X U d b)).run prog w=.ok (Sb a.isNone) w:=λw a k c d b=>Lib.run_eql_slice_nil w _ _ a k c d b underlying23
 go_in
 go_wp2_with (at_builtin;refine nG R λK hK=>JD _ _ 23 R (Z w.1) 2 F underlying23 s x y z (Hl (Z w.1) 0 0) [] R (by simpa using World.ownsRow_lit (base:=Z w.1) (e:=2) (size:=1) w #[] 0 sP sP R) sP (S ⟨n,m,U⟩) k c l B g R u (t.keep<|(Xb (dC (Z w.1) w) _).mono r) SB sP ?_)
 intro v1 P h e f;have j:=Y (e.below (by simpa using World.ownsRow_lit (base:=Z w.1) (e:=2) (size:=1) w #[] 0 sP sP R:(w.alloc<|Sc #[] 2).ownsRow w.heap.size 2 1 (Hl w.heap.size 0 0) 0 []) (Xb Rf _) sP);have p:=Y h;have o:=Y f;refine hK _ _ ?_;go_wp2;go_ret;exact⟨_,R,j,o,p⟩
def vL(a b:Ub):Prop:=a=b
theorem Bb(n:N)(w:Ub)(o:n<=1000000):
 Sk prog 202 #[Hq,H n] w λi f=>∃v,i=Rt v/\Sw (Z w.1) w f/\(0<n->v≠Hq)/\Sx f (Z w.1) 2 1 v 0 []:=by
 let⟨e,l,m,p,d⟩:=fX RH;by_cases j:n=0
 .subst j
  go_in
  go_wp2;go_ret;exact⟨_,R,Rf,λh=>Sz h O,dA⟩
 have c:∀b,(Builtin.append_ #[23,3] b #[Hq,H n]).run prog w =
  .ok (Hl (Z w.1) (0+n) (grownCap w (0+n) 0 2)) (D w.drew<|Sc (([]:Wo).toArray++Builtin.zeroCells (H 0).cells n++Builtin.zeroCells (H 0).cells (grownCap w (0+n) 0 2 - (0+n))) 2):=λb=>
  Lib.run_append_grow_zeros w 23 3 b 2 e (H 0) S6 S6 underlying23 underlying3 l m U 0 0 [] (run_firstCells_none w.drew e.3 0 0 0) n O O O O (by rw[d];omega) (by rw[d];exact growslice_fits O O)
 have k:0+n<=grownCap w (0+n) 0 2:=grownCap_ge w _ _ _;have a:=grownCap_le_maxLen w (0+n) 0 2 SD;rw[aV]at c k a;have g:Q (∀W:Ub,Sx (D W<|Sc (([]:Wo).toArray++Builtin.zeroCells (H 0).cells n++Builtin.zeroCells (H 0).cells (grownCap w n 0 2 - n)) 2) (Z W.1) 2 1 (Hl (Z W.1) 0<|grownCap w n 0 2) 0 []):=Y (λW=>World.ownsRow_made W _ _ aA a (by simp[size_zeroCells,Value.cells];omega));generalize ([]:Wo).toArray++Builtin.zeroCells (H 0).cells n++Builtin.zeroCells (H 0).cells (grownCap w n 0 2 - n)=cells at*;generalize grownCap w n 0 2=q at*;unfold maxLen at a
 go_in
 go_wp2_with (at_builtin;refine Lib.wpList_append_run _ R _ _ _ _ R _ _ R R _ _ (c _) ?_)
 all_goals (go_ret;exact⟨_,R,Xb (Rf).drew _,λ_ h=>(by cases h),g w.drew⟩)
theorem Wb{c1 c2}(T_:Q (Xf w B g p l))(U_:Q (Xf w i j P L))(e1:Q (m=J l))(e2:Q (k=J L))(aa:m<=1000)(ab:k<=1000)(Y_:0<m+k)(V_:g<=Z w.1)(W_:j<=Z w.1)(t:E w (A n 0)=S (X p m c1))(q1:E w (A n 1)=S (X P k c2)):
 Sk prog 175 #[Hl n 2 2] w λx z=>∃v,x=Rt v/\Sw (Z w.1) w z/\Sx z (Z w.1) 2 1 v (J (l++L)) ((l++L).map (Si S6)):=by
 obtain⟨K,M,T,F,V⟩:=fX RH;have M_:=Y<|Bb (m+k) w O
 go_in
 go_wp2
 go_loopw [3,11] (λs u wr=>vL wr w/\((s=H 0/\u=H 0)\/(s=H m/\u=H 1)\/(s=H ((m+k:N):I)/\u=H 2))) λ_ u _=>2-(JB u).toNat
 .exact⟨R,bC ⟨R,R⟩⟩
 obtain⟨q,r⟩:=hrel;unfold vL at q;have X_:=q.symm;subst X_;clear q;obtain⟨rfl,rfl⟩|⟨rfl,rfl⟩|⟨rfl,rfl⟩:=r
 .go_wp2;exact⟨⟨R,aZ<|bC ⟨R,R⟩⟩,SL⟩
 .go_wp2;exact⟨⟨R,aZ<|aZ ⟨gM,R⟩⟩,SL⟩
 go_wp2_with fail
 refine M_.mono ?_;rintro x w1⟨v,rfl,y,C,W⟩;have K_:=Y y;have R_:=Y W;have Q_:=Y<|C Y_;have z_:n<Z w.1:=aI _ _ t;clear y W C;go_wp2
 go_loopw [6,27] (λv u e=>Q (Sw (Z w.1) w e)/\Q (v≠Hq)/\((u=H 0/\Q (Sx e (Z w.1) 2 1 v (J ([]:Wc)) (([]:Wc).map (Si S6))))\/(u=H 1/\Q (Sx e (Z w.1) 2 1 v (J l)<|l.map (Si S6)))\/(u=H 2/\Q (Sx e (Z w.1) 2 1 v (J (l++L)) ((l++L).map (Si S6)))))) λ_ u _=>2-(JB u).toNat
 .exact⟨K_,Q_,bC ⟨R,R_⟩⟩
 obtain⟨a,t_,r⟩:=hrel;have aj:=oB a t z_;have al:=oB a q1 z_;have af:=a.4;have ac:J l<=1000:=oN e1.o;have ad:J L<=1000:=oN e2.o;obtain⟨rfl,HOq⟩|⟨rfl,HOq⟩|⟨rfl,HOq⟩:=r
 .have N_:=Y<|T_.keep (a.mono V_);go_wp2_with (at_builtin;refine nG R λS_ hK=>JD _ _ 23 R (Z w.1) 2 K underlying23 M T F V _ [] R HOq t_ p m c1 l B g R e1 N_ SB O ?_)
  intro v2 Z_ d b c;have f:=Y<|b.below HOq a O;have o:=Y d;have h:=Y c;clear d b c;refine hK _ _ ?_;go_wp2;exact⟨⟨f,h,aZ<|bC ⟨R,o⟩⟩,SL⟩
 .have O_:=Y<|U_.keep (a.mono W_);go_wp2_with (at_builtin;refine nG R λS_ hK=>JD _ _ 23 R (Z w.1) 2 K underlying23 M T F V _ l R HOq t_ P k c2 L i j R e2 O_ O O ?_)
  intro v2 Z_ d b c;have f:=Y<|b.below HOq a O;have o:=Y d;have h:=Y c;clear d b c;refine hK _ _ ?_;go_wp2;exact⟨⟨f,h,aZ<|aZ ⟨R,Y<|by rw[aQ,bG];exact o⟩⟩,SL⟩
 go_wp2;go_ret;exact⟨_,R,a,HOq⟩
structure U8(w w':Ub)(n:N)(gs:Wk):Prop where
 os:w'.4=w.4
 tape:w'.2=w.2
 output:w'.5=w.5
 size:Z w.1<=Z w'.1
 block:∀k,k<Z w.1->(∀i,i<n->k≠gs i)->w'.1[k]?=w.1[k]?
theorem U8.refl(w n a):U8 w w n a:=⟨R,R,R,aA,λ_ _ _=>R⟩
theorem U8.below(h:U8 w v n f)(k:Sw (Z v.1) v u):U8 w u n f:=⟨G k.1 h.1,G k.2 h.2,G k.3 h.3,aJ h.4 k.4,λj a b=>G (k.5 j<|aX a h.4) (h.5 j a b)⟩
theorem U8.grown(h:U8 w v n f)(k:v.grownBy u (S<|f m))(c:m<n):U8 w u n f:=⟨G k.1 h.1,G k.2 h.2,G k.3 h.3,aJ h.4 k.4,λj a b=>G (k.5 j (aX a h.4) λe=>b m c<|by injection e) (h.5 j a b)⟩
def Xi(l:Wa):Wc:=l.map Int.ofNat
def Yv(w:Ub)(P:Vv)(c:Uy)(a:Wc):Prop :=
 ∀i (h:i<J a),∃b o,c=S ⟨b,o,U⟩/\(P b/\b<Z w.1)/\E w ⟨b,o+i,U⟩=S (Si S6 a[i])
def TA(w:Ub)(P:Vv)(d:Uy)(a:Tm):Prop :=
 ∀i (h:i<J a),∃b o,d=S ⟨b,o,U⟩/\(P b/\b<Z w.1)/\∃c e,E w ⟨b,o+i,U⟩=S (X c (J a[i]) e)/\Yv w P c a[i]
theorem cy.keep{w':Ub}(h:cy n w m k B f F M)(b:Sw (Z w.1) w w'):cy n w' m k B f F M :=
 ⟨h.1.of_block<|b.5 _ h.1.lt,λi a=>(h.2 i a).of_block (b.5 _ (h.2 i a).lt),h.3,h.o⟩
theorem cy.wrote{b}(h:cy n w m k B f F M)(c:g<k)(d:w.grownBy v (S<|f g))(j:Cp v (f g) B (F g) b):cy n v m k B f F (λi=>if i=g then b else M i):=by
 refine⟨h.1.of_block (d.5 _ h.1.lt λe=>h.o g c<|by injection e with e;exact e.symm),λi a=>?_,h.3,h.o⟩;by_cases e:i=g
 .subst e;simpa using j
 simp only[aM e];exact(h.2 i a).of_block (d.5 _ (h.2 i a).lt λe2=>e<|by injection e2 with e2;exact h.3 i g a c e2)
theorem cy.apart{b}(h:cy n w m k B F b M)(c:U8 w v k f)(d:∀i,i<k->m≠f i)(e:∀i j,i<k->j<k->F i≠f j):cy n v m k B F b M :=
 ⟨h.1.of_block<|c.5 _ h.1.lt d,λi a=>(h.2 i a).of_block (c.5 _ (h.2 i a).lt λj g=>e i j a g),h.3,h.o⟩
theorem P4(az fa t:N)(hf:(az=127/\fa=129)\/az=231/\fa=244)(Z_ o0 o c0 d L1 B1 sa ns cs)(a:List Wa)(L J_ n K c aa s ar P T w)(cb:Q (Xf w L1 B1 (S ⟨Z_,o0,U⟩) (Xi d)))(h0:Q (o=J d))(b7:o<=1000)(e7:0<o)(ep:Q (TA w (λl=>∀i,i<n->l≠c i) sa (a.map Xi)))(hs:Q (ns=J a))(ej:Q (J a=n))(hK:K<=100)(bn:B1<=Z w.1)(HI:Q (cy t w L n K c s P))(HT:Q (cy t w J_ n K aa ar T))(eq:Q (XQ P))(V_:Q (XQ T))(d3:Q (∀i,i<n->J_≠c i))(d4:Q (∀i ci,i<n->ci<n->aa i≠c ci))(ho:Q (∀b∈d,b<n))(eo:Q (∀cj∈a,J cj<=2000/\∀t∈cj,t<n)):
 Sk prog az #[Hm Z_ o0 o c0,X sa ns cs,Hl L n n,Hl J_ n n] w λe M=>e=Rt (St #[])/\U8 w M n c/\∃Ws,XQ Ws/\cy t M L n K c s Ws/\∀b,b<n->∀x,x<64*K->(Xh (Ws b) x=So↔Sp P T (·∈d) (λb=>a.getD b []) b x):=by
 have cq:=Y (P8 fa (by obtain h|h:=hf<;>simp[h.2]));obtain⟨rfl,rfl⟩|⟨rfl,rfl⟩:=hf
 go_in
 rotate_left
 go_in
 rotate_left
 all_goals (
  go_wp2_with fail
  go_step3
  go_wp2_with fail
  refine(Aq cb (Y (by have:=h0.o;simp[Xi];omega)) O bn).mono ?_;rintro e w1⟨v1,rfl,bq,ei,a2⟩;obtain⟨P_,k1,rfl,b1,e0⟩:=Xm a2 (by have:=h0.o;simp[Xi];omega);have ad:=Y bq;have al:=Y a2;have Q_:J (Xi d)=o:=by have:=h0.o;simp[Xi];omega
  rw[Q_]at al;clear bq a2 ei;go_wp2_with fail
  have ez:P_<Z w1.1:=b1.2;have ey:Z w.1<=P_:=b1.1;refine YU (TM O (Y Q_.symm) al) λB⟨b3,ca⟩=>?_;have a8:Q (Sw (Z w.1) w B):=Y (ad.grown b3 ad.4 λl e=>by cases e;omega);have bd:=Y ca;clear b3 ca;go_wp2_with fail
  have eb:(λx9:Ub=>Q (Sw (Z B.1) B x9)/\E x9 (A (Z B.1) 0)=S (Hm Z_ o0 o c0)/\E x9 (A (Z B.1) 1)=S (Hl P_ o k1)) (D B<|Sc #[Hm Z_ o0 o c0,Hl P_ o k1] 23):=⟨Y<|Xb Rf _,sP,sP⟩;generalize D B _=wa at*;let⟨Y_,ac,cc⟩:=eb;have X_:Q (Sw (Z w.1) w wa):=Y<|Xg a8 Y_;have V:J (Xi d).reverse=o:=by rw[jQ];exact Q_
  have bb:Q (Xf wa (Z w.1) (Z B.1) (S ⟨P_,0,U⟩) (Xi d).reverse):=Y (by have h:=bd.o;rw[<-V]at h;let⟨a',c',e',eg⟩:=Xk h;injection e' with e1;subst e1;exact eg.keep Y_)
  refine(Wb (Y<|cb.keep (X_.mono bn)) bb (Y Q_.symm) (Y V.symm) b7 b7 O (oN X_.4) Y_.4 ac cc).mono ?_;rintro e N_⟨v3,rfl,a1,a4⟩;have g:Q (Sw (Z w.1) w N_):=Y<|Xg X_ a1;have eR:Xi d++(Xi d).reverse=Xi (d++d.reverse):=by simp[Xi]
  rw[eR]at a4;have ec:J (d++d.reverse)=2*o:=by have:=h0.o;simp;omega
  have a0:Q (∀b,b∈d++d.reverse↔b∈d):=Y λb=>sP;generalize d++d.reverse=C at*;have b8:J (Xi C)=J C:=by simp[Xi]
  let⟨a3,c3,e3,b4⟩:=Xk a4;rw[b8]at e3;subst e3;have c6:=Y b4;have dw:Q (Z wa.1<=Z N_.1/\Z w.1<=Z wa.1):=Y ⟨a1.4,X_.4⟩;clear a1 a4 eR ac cc Y_ b4;have di:=Y<|HI.keep (g);have dn:=Y<|HT.keep (g);have bo:0<J C:=O;have eu:J C<=2000:=O;clear ec Q_ V b8;have cw:Q (∀i,i<n->c i<Z w.1):=Y λi E_=>(HI.2 i E_).lt;go_wp2_with fail
  go_step3
  go_wp2
  go_loopg [10] (JI P K n) λl qv wr=>∃(q:N)(W:Vp),qv=H q/\q<J C/\Q (U8 N_ wr n c)/\Q (cy t wr L n K c s W)/\Q (XQ W)/\Q (JI W K n<=l)/\Q (∀b x,Xh (P b) x=So->Xh (W b) x=So)/\Q (∀b x,Xh (W b) x=So->Sp P T (·∈d) (λb=>a.getD b []) b x)/\Q (Ov T K (λb=>a.getD b []) W C q 0)
  .exact⟨0,P,R,bo,Y<|U8.refl _ _ _,di,eq,Y<|aA,Y λ_ _ h=>h,Y λ_ _ h=>Sp.init h,Y Vz⟩
  case round=>
   obtain⟨q0,W0,rfl,ac,cn,df,du,c8,cz,dl,ck⟩:=hrel;go_wp2_with fail
   generalize wr=wo at*
   go_loopw [10,26] (λqv H_ wr=>∃(q p:N)(W:Vp),qv=H q/\q<J C/\H_=H p/\p<=J C/\Q (U8 N_ wr n c)/\Q (cy t wr L n K c s W)/\Q (XQ W)/\Q (JI W K n<gk\/(JI W K n<=gk/\q=q0+p))/\Q (∀b x,Xh (P b) x=So->Xh (W b) x=So)/\Q (∀b x,Xh (W b) x=So->Sp P T (·∈d) (λb=>a.getD b []) b x)/\Q (Ov T K (λb=>a.getD b []) W C q p)) λ_ H_ _=>J C-(JB H_).toNat
   .exact⟨q0,0,W0,R,ac,R,aN,cn,df,du,Y<|aZ ⟨c8,O⟩,cz,dl,ck⟩
   case round=>
    obtain⟨q,p,W,rfl,hq,rfl,hp,y,HS,C_,HM,bc,bf,HC⟩:=hrel;by_cases S_:p<J C
    .obtain⟨br,e8,rfl,ef,bm⟩:=c6 p (by simpa [Xi]using S_);have ct:Q (U8 w wr n c):=Y ⟨G y.1 g.1,G y.2 g.2,G y.3 g.3,aJ g.4 y.4,λl u D_=>G (y.5 l (aX u g.4) D_) (g.5 l u)⟩;have er:=G (Xc (y.5 br ef.2 λi E_ e=>by have:=cw i E_;have:=dw.o;omega)) bm;have bp:(Xi C)[p]'(by simpa [Xi]using S_)=((C[p]:N):I):=by simp[Xi]
     rw[bp]at er;have m:C[p]<n:=ho _<|(a0 _).1 (aH S_);have ee:Q (C[p]∈d):=Y<|(a0 _).1 (aH S_);have ab:C[p]<J a:=oN ej.o;let⟨bs,os,en,bv,dz,et,es,b6⟩:=ep C[p] (by simpa using ab);subst en;have d0:=G (Xc<|ct.5 bs bv.2 bv.1) es;have cf:J ((a.map Xi)[C[p]]'(by simpa using ab))=J a[C[p]]:=by simp[Xi]
     rw[cf]at d0;have be:=Y<|eo.o a[C[p]] (aH ab);have e6:=be.1;have ba:Q (a.getD C[p] []=a[C[p]]):=Y (by simp[ab]);have cm:Q (∀W',(∀i x,x<64*K->Xh (W' i) x=Xh (W i) x)->PN T K (λb=>a.getD b []) W C[p]->Ov T K (λb=>a.getD b []) W' C (q+1) (p+1)):=Y λW' e hb=>Br HC e S_ hb;have ev:C[p]<ns:=oN hs.o;have c7:Q (Yv w (λl=>∀i,i<n->l≠c i) dz (Xi a[C[p]])):=Y (by simpa using b6);clear bm es b6 bp cf;generalize ed:C[p]=b at*;clear ed;generalize a[b]=f at*;go_wp2_with fail
     generalize wr=e9 at*
     go_loopw [13,35] (λgv H_ wq=>∃r:N,r<=J f/\H_=H r/\gv=Sb (E5 T K b (f.take r) (W,Sn)).2/\Q (U8 N_ wq n c)/\Q (cy t wq L n K c s (E5 T K b (f.take r) (W,Sn)).1)) λ_ H_ _=>J f-(JB H_).toNat
     .exact⟨0,aN,R,R,y,HS⟩
     obtain⟨r,hr,rfl,rfl,j,k⟩:=hrel;by_cases V:r<J f
     .have cv:Q (U8 w wr n c):=Y ⟨G j.1 g.1,G j.2 g.2,G j.3 g.3,aJ g.4 j.4,λl u D_=>G (j.5 l (aX u g.4) D_) (g.5 l u)⟩;obtain⟨b5,o5,rfl,bt,bl⟩:=c7 r (by simpa [Xi]using V);have e5:=G (Xc<|cv.5 b5 bt.2 bt.1) bl;have cg:(Xi f)[r]'(by simpa [Xi]using V)=((f[r]:N):I):=by simp[Xi]
      rw[cg]at e5;have a6:f[r]<n:=be.2 _<|aH V;have ap:=Y<|dn.apart j d3 d4;have bh:=Y<|Ay (T:=T) (K:=K) (b:=b) V (W,Sn);have bi:=Y<|TG (T:=T) (K:=K) (b:=b) (f.take r) (W,Sn) C_;clear bl cg;generalize f[r]=v at*;generalize E5 T K b (f.take r) (W,Sn)=sq at*;let⟨O_,gq⟩:=sq;dsimp only at*;have k1:=k.1.cell m;have k2:=k.1.cell a6;have k3:=ap.1.cell m;have a7:=Y (cq.o (c b) (c v) (aa b) K (s b) (s v) (ar b) (O_ b) (O_ v) (T b) wr.drew (Y<|bi.o b) (Y<|bi.o v) (Y<|V_.o b) O (Y<|(k.2 b m).drew) (Y<|(k.2 v a6).drew) (Y<|(ap.2 b m).drew) (d4 b b m m) (Y λe=>by rw[k.3 v b a6 m e]));have dk:Q (cy t wr.drew L n K c s O_):=Y ⟨k.1,λi E_=>(k.2 i E_).drew,k.3,k.o.o⟩;have cr:Q (U8 N_ wr.drew n c):=Y ⟨j.1,j.2,j.3,j.4,j.5⟩;have aj:Q (L<Z wr.1/\J_<Z wr.1):=Y ⟨k.1.lt,ap.1.lt⟩;generalize Ix (O_ b) (O_ v) (T b) K=g5 at*;go_wp2_with fail
      refine Y7 (λM=>E M (A L b)=S (Hl (c b) K (s b))/\E M (A L v)=S (Hl (c v) K (s v))/\E M (A J_ b)=S (Hl (aa b) K (ar b))) λig=>?_;refine Xn 0 ?_;(iterate 11 refine Rm ?_);refine Xs 12 λK hK=>?_;go_simp
      first|go_at_call 129|go_at_call 244
      refine YU a7 λw5⟨L_,ce⟩=>?_;have dj:=Y<|dk.wrote m L_ ce;have co:=Y<|cr.grown L_ m;have j1:=G (Xc<|L_.5 L aj.1 λe=>k.o.o b m<|by injection e with e;exact e.symm) k1;have j2:=G (Xc<|L_.5 L aj.1 λe=>k.o.o b m<|by injection e with e;exact e.symm) k2;have j3:=G (Xc<|L_.5 J_ aj.2 λe=>d3 b m<|by injection e) k3;clear L_ ce;refine hK _ _ ⟨j1,j2,j3⟩ λig=>?_;clear hK;refine Xn 13 ?_;cases g5
      focus
       refine wpAnyH_take (i:=14) (v:=?_) R vZ vZ vZ (λ_ _ _ h=>h) (bC ⟨by rfl,?_⟩) (by assumption) ?_;rotate_left;intro w hSw;(try dsimp only at hSw);go_simp;try with_reducible rfl
      rotate_left
      focus
       refine wpAnyH_take (i:=14) (v:=Su) R vZ vZ vZ (λ_ _ _ h=>h) (aZ ⟨by rfl,R⟩) (by assumption) ?_
      all_goals (
       simp only[xX];refine Xn 15 ?_;refine Xn 16 ?_;refine Yq ?_;go_wp2
       exact⟨⟨r+1,O,gM,by rw[bh.o];rfl,Y co.o,Y<|by rw[bh.o];exact dj⟩,SA⟩)
     have em:r=J f:=O;have ds:Q (f.take r=f):=Y<|aW O;rw[ds.o]at k |-;clear em;have aq:=Y<|TG (T:=T) (K:=K) (b:=b) f (W,Sn) C_;have db:=Y<|JJ (T:=T) (K:=K) (b:=b) V_ f (W,Sn) C_;have ao:=Y (T9 (I_:=P) (T:=T) (K:=K) (b:=b) (ord:=(·∈d)) (src:=λb=>a.getD b []) V_ ee f (W,Sn) C_ (λt U_=>by show t∈a.getD b [];rw[ba.o];exact U_) bf);have dd:=Y<|T6 (T:=T) (K:=K) (b:=b) V_ f (W,Sn) C_;have cx:=Y<|UB (T:=T) (K:=K) (b:=b) V_ f (W,Sn) C_ R;have dc:=Y λi (E_:i≠b)=>TN (T:=T) (K:=K) E_ f (W,Sn);generalize E5 T K b f (W,Sn)=sq at*;let⟨z,ea⟩:=sq;dsimp only at*;have af:Q (∀b x,Xh (P b) x=So->Xh (z b) x=So):=Y λb x h=>db b x<|bc b x h;cases ea with
     |true=>
      have c9:=Y<|tx (K:=K) dc (cx R) n m;go_wp2;exact⟨⟨0,p+1,z,R,bo,gM,O,j,k,aq,Y (bC (by have:=c9.o;obtain h|h:=HM.o<;>omega)),af,ao,Y Vz⟩,SA⟩
     |false=>
      let⟨a5,bx⟩:=dd R;have a9:Q (Ov T K (λb=>a.getD b []) z C (q+1) (p+1)):=Y (cm.o z a5 (λt U_ x F=>by have ch:t∈a.getD b []:=U_;rw[ba.o]at ch;exact bx t ch x F));have da:Q (JI z K n=JI W K n):=Y (Vo n λi _=>Vl λx F=>a5 i x F);clear a5 bx;by_cases cd:q+1=J C
      .have el:(((q:I)+1)==(J C:I))=So:=SB
       have cl:Q (Ov T K (λb=>a.getD b []) z C (J C) (p+1)):=Y (by rw[<-cd];exact a9);clear cd;go_wp2
       go_end0
       refine⟨R,⟨G j.1 g.1,G j.2 g.2,G j.3 g.3,aJ g.4 j.4,λl u D_=>G (j.5 l (aX u g.4) D_) (g.5 l u)⟩,z,aq,k,λb _ x F=>?_⟩;exact We af ao (λb hb t U_ x F u D_=>B6 cl O ((a0 b).2 hb) t U_ x F u D_) F
      have el:(((q:I)+1)==(J C:I))=Sn:=SB
      go_wp2;exact⟨⟨q+1,p+1,z,gM,O,gM,O,j,k,aq,Y (by rw[da.o];obtain h|⟨h,h'⟩:=HM.o;exact bC h;exact aZ ⟨h,O⟩),af,ao,a9⟩,SA⟩
    have ek:p=J C:=O;subst ek;go_wp2_with fail
    go_roundg (JI W K n)
    case measure=>obtain h|⟨_,h⟩:=HM.o;exact h;omega
    case rel=>exact⟨q,W,R,hq,y,HS,C_,Y<|aA,bc,bf,Y<|Bj HC hq⟩)
theorem Mw{f}(j:XR w n m p f)(a:∀b,n<=b->b<m->d b/\b<Z w.1):TA w d p f:=λq l=>by let⟨b,s,i,c,g,h,e2,k⟩:=j q l;refine⟨b,s,i,a b c.1 c.2,g,h,e2,λr o=>?_⟩;let⟨b2,t,e3,e,e4⟩:=k r o;exact⟨b2,t,e3,a b2 e.1 e.2,e4⟩
theorem AC(k o d c0 e q g p m s)(c:List Wa)(r h z f n K a l C T w)(L:Q (Xf w q g (S ⟨k,o,U⟩) (Xi e)))(B:Q (d=J e))(P:d<=1000)(F:0<d)(V:Q (XR w r h p<|c.map Xi))(M:Q (m=J c))(W:Q (J c=n))(hK:K<=100)(C_:g<=Z w.1)(V_:h<=Z w.1)(z_:Q (Ye w z n K a C))(A_:Q (Ye w f n K l T))(P_:Q (XQ C))(Q_:Q (XQ T))(d2:Q (∀i,i<n->¬(r<=a i/\a i<h)))(d3:Q (∀i,i<n->f≠a i))(d4:Q (∀i u,i<n->u<n->l i≠a u))(J_:Q (∀b∈e,b<n))(N_:Q (∀v∈c,J v<=2000/\∀R_∈v,R_<n)):
 Sk prog 231 #[Hm k o d c0,X p m s,Hl z n n,Hl f n n] w λt y=>t=Rt (St #[])/\U8 w y n a/\∃j,XQ j/\Ye y z n K a j/\∀b,b<n->∀x,x<64*K->(Xh (j b) x=So↔Sp C T (·∈e) (λb=>c.getD b []) b x) :=
 (P4 _ 244 123 (aZ ⟨R,R⟩) k o d c0 e q g p m s c z f n K a l _ _ C T w L B P F (Y<|Mw V λb S_ U_=>⟨λi D_ t=>d2 i D_ O,O⟩) M W hK C_ z_ A_ P_ Q_ d3 d4 J_ N_)
abbrev Az:=@P4 127 129 126<|bC ⟨R,R⟩
def PD(b:N):Wa:=(Rg b).filter λx=>x != 0
def Nt(b:N):Vp:=λi=>if i=0 then E2 (λ_=>0) (PD b)else λ_=>0
def N7(b:N):Vp:=λi=>if i<b then YH (λ_=>0) i else λ_=>0
theorem KW:XA (λ_=>0):=λ_=>(by decide:0<18446744073709551616)
theorem Dp:PD 1=[]:=R
theorem D8(h:n≠0):PD (n+1)=PD n++[n]:=by unfold PD;rw[dN,eU];simp[h]
theorem Ew:m∈PD n↔m<n/\m≠0:=by simp[PD]
theorem v9(b):XQ (Nt b):=λi=>by
 unfold Nt;split;·exact Zs _ KW
 exact KW
theorem vX(b):XQ (N7 b):=λi=>by
 unfold N7;split;·exact oV KW i
 exact KW
theorem EN(a:k<n):Xh (Nt n m) k=So↔m=0/\k≠0:=by
 unfold Nt;by_cases e:m=0
 .rw[aU e,YR,Z3,jU,bD,Ew];exact⟨λh=>⟨e,h.2⟩,λh=>⟨a,h.2⟩⟩
 rw[aM e,Z3];exact⟨λh=>(by cases h),λh=>Sz h.1 e⟩
theorem En(a:m<n):Xh (N7 n m) k=So↔k=m:=by unfold N7;rw[aU a,Z8,Z3,jU,bD]
theorem Cs:Nt 1=λi=>Nt 0 i:=by funext i;unfold Nt;rw[Dp];rfl
theorem Dz(h:n≠0):(λi=>if i=0 then E2 (Nt n 0) [n]else Nt n i)=Nt (n+1):=by
 funext i;unfold Nt;by_cases e:i=0
 .subst e;simp only[gG];rw[D8 h];unfold E2;rw[dT]
 simp only[aM e]
theorem Dt:(λi=>if i=n then E2 (N7 n n) [n]else N7 n i)=N7 (n+1):=by
 funext i;unfold N7;by_cases e:i=n
 .subst e;simp only[gG,Nat.lt_irrefl,fD];rw[aU<|iJ];rfl
 simp only[aM e];by_cases h:i<n;·rw[aU h,aU O]
 rw[aM h,aM O]
theorem cy.grown(h:cy n w m k B f F M)(b:w.grownBy v (S g))(c:m≠g)(d:∀i,i<k->f i≠g):cy n v m k B f F M :=
 ⟨h.1.of_block (b.5 _ h.1.lt λe=>c<|by injection e),λi a=>(h.2 i a).of_block (b.5 _ (h.2 i a).lt λe=>d i a<|by injection e),h.3,h.o⟩
theorem A5(Z_ pc c0){P:List Wa}(L2 P_)(b3:Q (XR w L2 P_ Z_<|P.map Xi))(hs:Q (n=J P))(b0:Q (Xf w g i (S ⟨m,k,U⟩) (Xi s)))(h0:Q (B=J s))(hn:n<=1000)(l:0<n)(bv:B<=1000)(bx:0<B)(bo:i<=Z w.1)(bp:P_<=Z w.1)(ho:Q (∀b∈s,b<n))(b1:Q (∀ba∈P,J ba<=2000/\∀T∈ba,T<n)):
 Sk prog 211 #[X Z_ n pc,Hm m k B c0] w λe w'=>∃c j V,e=Rt (Hl c n n)/\Sw (Z w.1) w w'/\Ye w' c n ((n+63)/64) j V/\XQ V/\∀b,b<n->∀M,M<n->(Xh (V b) M=So↔Sp (Nt n) (N7 n) (·∈s) (λb=>P.getD b []) b M):=by
 have ca:(n+63)/64<=16:=O;have cb:n<=64*((n+63)/64):=O;have aj:=Y<|Th n n w hn O;have al:=Y λbn=>Th n n bn hn O;generalize (n+63)/64=K at*
 go_in
 go_wp2_with fail
 refine aj.mono ?_;rintro e w1⟨c,j,rfl,hG,a0,a4,a7⟩;have Q_:=Y a0;have N_:=Y a4;clear a0 a4;go_wp2_with fail
 refine(al w1).mono ?_;rintro e L⟨y,p,rfl,b7,X_,a5,a8⟩;have ab:=Y<|Xg Q_ X_;have ap:=Y<|N_.keep X_;have ar:=Y a5;have b8:=N_.1.lt;have ad:=Y λa d=>(N_.2 a d).lt;have V_:=Y a7;have be:=Y Q_.4;have W_:=Y a8;clear X_ a5 a7 a8;go_wp2_with fail
 have S_:Q (∀a O_,a<n->O_<n->p a≠j O_):=Y (λa O_ d hj e=>by have:=ad O_ hj;have:=W_ a d;omega);have bd:Q (∀a,a<n->c≠p a):=Y (λa d e=>by have:=W_ a d;omega);have ac:Q (∀a,a<n->y≠j a):=Y (λa d e=>by have:=ad a d;omega);have af:Q (Ye L c n K j<|Nt 0):=Y (by
  have e:(λ_ _=>0:Vp)=Nt 0:=by funext a;unfold Nt;split<;>rfl
  rw[<-e];exact ap)
 have aq:Q (Ye L y n K p<|N7 0):=Y (by
  have e:(λ_ _=>0:Vp)=N7 0:=by funext a;unfold N7;rw[aM O]
  rw[<-e];exact ar)
 go_loopw [18] (λaa wr=>∃b:N,b<=n/\aa=H b/\Q (Sw (Z w.1) w wr)/\Q (Z L.1<=Z wr.1)/\Q (Ye wr c n K j<|Nt b)/\Q (Ye wr y n K p<|N7 b)) λaa _=>n-(JB aa).toNat
 .exact⟨0,aN,R,ab,Y<|aA,af,aq⟩
 obtain⟨b,hb,rfl,h,HZ,z,W⟩:=hrel;by_cases r:b<n
 .have k1:=W.1.cell r;have Y_:=z.1.cell l;go_wp2_with fail
  have C:Q (Xf (D wr<|Sc #[H b] 205) (Z wr.1) (Z wr.1+1) (S ⟨Z wr.1,0,U⟩) ([b].map Int.ofNat)):=Y<|UY wr b;have ao:Q (∀T∈[b],T<64*K):=Y (λT ht=>by
   have:T=b:=by simpa using ht
   omega)
  have u:=Y<|W.keep (Xb Rf (Sc #[H b] 205));have t:=Y<|z.keep (Xb Rf (Sc #[H b] 205));have o:=Y<|Xb h (Sc #[H b] 205);have b4:Z wr.1+1<=Z (D wr<|Sc #[H b] 205).1:=sP;have ce:=(W.2 b r).lt;have cc:=(z.2 0 l).lt;clear h z W k1 Y_;generalize D wr _=wa at*;refine YU (Tz (p b) K K 1 1 (N7 b b) _ [b] (Z wr.1) (Z wr.1+1) wa C (Y R) O ao O (Y<|vX b b) (Y<|u.2 b r) b4 O) λf⟨F,a2⟩=>?_;have U_:Q (Ye f y n K p<|N7 (b+1)):=Y (by rw[<-Dt];exact u.wrote r F a2);have A_:=Y (t.grown F (bd b r) λa d e=>S_ b a r d e.symm);have R_:=Y (o.grown F o.4 λx e=>by cases e;have:=W_ b r;have:=be.o;omega);have az:Q (Z L.1<=Z f.1):=Y<|oP F.4 HZ.o;clear F a2 u t o C;by_cases q:b=0
  .have T_:Q (Ye f c n K j<|Nt (b+1)):=Y (by subst q;rw[Cs];exact A_);have bq:((b:I)==0)=So:=by simp[q]
   have br:((b:I) != 0)=Sn:=by simp[q]
   clear q;go_wp2;exact⟨⟨b+1,O,gM,R_,az,T_,U_⟩,SA⟩
  have bq:((b:I)==0)=Sn:=by simp[q]
  have br:((b:I) != 0)=So:=by simp[q]
  have Y_:=A_.1.cell l;go_wp2_with fail
  have C:Q (Xf (D f<|Sc #[H b] 205) (Z f.1) (Z f.1+1) (S ⟨Z f.1,0,U⟩) ([b].map Int.ofNat)):=Y<|UY f b;have u:=Y<|U_.keep (Xb Rf (Sc #[H b] 205));have t:=Y<|A_.keep (Xb Rf (Sc #[H b] 205));have o:=Y<|Xb R_ (Sc #[H b] 205);have b5:Z f.1+1<=Z (D f<|Sc #[H b] 205).1:=sP;have cd:=(A_.2 0 l).lt;clear Y_;generalize D f _=wb at*;refine YU (Tz (j 0) K K 1 1 (Nt b 0) _ [b] (Z f.1) (Z f.1+1) wb C (Y R) O ao O (Y<|v9 b 0) (Y<|t.2 0 l) b5 O) λw6⟨H_,a3⟩=>?_;have T_:Q (Ye w6 c n K j<|Nt (b+1)):=Y (by rw[<-Dz q];exact t.wrote l H_ a3);have bi:=Y (u.grown H_ (ac 0 l) λa d=>S_ a 0 d l);have bb:=Y (o.grown H_ o.4 λx e=>by cases e;exact V_ 0 l);have bm:Q (Z L.1<=Z w6.1):=Y<|oP H_.4 az.o;clear H_ a3 u t o C;go_wp2;exact⟨⟨b+1,O,gM,bb,bm,T_,bi⟩,SA⟩
 have bt:b=n:=O;subst bt;go_wp2_with fail
 refine YU (AC m k B c0 s g i Z_ b pc P L2 P_ c y b K j p (Nt b) (N7 b) wr (Y<|b0.keep (h.mono bo)) h0 bv bx (Y<|b3.keepS λx _ h2=>(h.mono bp).5 x h2) hs (Y hs.symm) O (oN h.4) (oN h.4) z W (Y<|v9 b) (Y<|vX b) (Y λa d b6=>by have:=V_ a d;omega) ac S_ ho b1) λw7⟨v,V,a9,a6,a1⟩=>?_;have bc:Q (Sw (Z w.1) w w7):=Y ⟨G v.1 h.1,G v.2 h.2,G v.3 h.3,aJ h.4 v.4,λx hk=>G (v.5 x (oN h.4) λa d e=>by have:=V_ a d;omega) (h.5 x hk)⟩;have bh:=Y a6;have bl:=Y a9;have bf:=Y a1;clear v a9 a6 a1;go_wp2;go_ret;exact⟨c,j,V,R,bc,bh,bl,λc_ hc M hx=>bf c_ hc M O⟩
theorem Ww{a p}:XZ (a++[p])=XZ a+(1+J p.2):=by simp[XZ]
theorem Ux:Xo (x++[q])=Xo x+(1+J q.2+XZ q.1):=by simp[Xo,Ul]
theorem tI(a:Za):J a<=XZ a:=by
 induction a with
 |nil=>simp
 |cons p a b=>simp only[XZ,eH,kX,bA]at b |-;omega
theorem Wm(a k):XZ (a.take k)<=XZ a:=Tw _ _ _
theorem Up(a k):Xo (a.take k)<=Xo a:=Tw _ _ _
theorem tB(L B)(ha:Q (Xp w L B p x))(s:Q (n=J x))(hn:n<=1048576)(hs:Xo x<=1048576)(y:B<=Z w.1):
 Sk prog 88 #[Sa #[H t,X p n c]] w λe z=>e=Rt (H<|Xo x)/\Sw (Z w.1) w z:=by
 go_in
 go_wp2;have l:=Xb (dC (Z w.1) w) (Sc #[H t,X p n c] 45);have V:E (D w<|Sc #[H t,X p n c] 45) (A (Z w.1) 1)=S (X p n c):=sP;generalize D w _=w1 at*
 go_loop [3,4] (λu i=>∃k:N,k<=n/\i=H k/\u=H (Xo (x.take k):N)) λ_ i=>n-(JB i).toNat
 .exact⟨0,aN,R,R⟩
 obtain⟨k,M,rfl,rfl⟩:=hrel;by_cases P:k<n
 .have q:k<J x:=oN s.o;obtain⟨T,ac,rfl,⟨_,W⟩,m⟩:=ha k q;let⟨pa,pc,ia,ic,K_,e1,_,r,_⟩:=m.keep (l.mono y) O;have v:=Y r;have a:Q (Xo (x.take<|k+1)=Xo (x.take k)+(1+J x[k].2+XZ x[k].1)):=by show _=_;rw[X7 q,Ux]
  have b:=Up x<|k+1;have A_:=Y b;have O_:Xo (x.take k)+(1+J x[k].2+XZ x[k].1)<=1048576:=oN a.o;have ab:J x[k].1<=1048576:=oN<|tI x[k].1;clear m r b;generalize x[k]=C at*;generalize g:Xo (x.take k)=K at*;have D_:=Y g;clear g;go_wp2
  go_loop [3,5] (λu i=>∃j:N,j<=J C.1/\i=H j/\u=H (K+(1+J C.2)+XZ (C.1.take j):N)) λ_ i=>J C.1-(JB i).toNat
  .exact⟨0,aN,R,by simp[XZ];try omega⟩
  obtain⟨j,W_,rfl,rfl⟩:=hrel;by_cases o:j<J C.1
  .obtain⟨I_,o',rfl,⟨_,U_⟩,G_,J_,M_,N_,_⟩:=v j o;have d:Q (XZ (C.1.take<|j+1)=XZ (C.1.take j)+(1+J C.1[j].2)):=by show _=_;rw[X7 o,Ww]
   have f:=Wm C.1<|j+1;have Q_:XZ (C.1.take j)+(1+J C.1[j].2)<=XZ C.1:=oN d.o;have C_:=Y f;clear f;generalize C.1[j]=P_ at*;generalize h:XZ (C.1.take j)=T_ at*;have F_:=Y h;clear h;go_wp2
   go_round
   .exact⟨j+1,O,gM,by rw[d.o];go_num⟩
   simp[JB];omega
  have e:=aW (l:=C.1) (i:=j) O;have F:=Y e;clear e;go_wp2
  go_round
  .exact⟨k+1,O,gM,by rw[a.o,F.o];go_num⟩
  simp[JB];omega
 have e:=aW (l:=x) (i:=k) (oN s.o);have F:=Y e;clear e;go_wp2;go_ret;exact⟨f9 (by rw[F.o]),l⟩
theorem tG{F}(a:0<=F.1)(b:F.1<=2000)(c:1<=J F.2)(d:J F.2<=1000)(e:Xo F.2<=4000):Y6 F=So:=by simp[Y6, *]
theorem UE{F}(a:4000<Xo F.2):Y6 F=Sn:=by simp[Y6];omega
theorem Wt{F}(h:¬(0<=F.1/\F.1<=2000/\1<=J F.2/\J F.2<=1000)):Y6 F=Sn:=by simp[Y6];omega
theorem Uz(ha:Q (Xp w m k p x))(h:Q (n=J x))(hn:n<=1048576)(hs:Xo x<=1048576)(Y_:k<=Z w.1):
 Sk prog 112 #[Sa #[H t,X p n c]] w λe w'=>e=Rt (Sb (Y6 ⟨t,x⟩))/\Sw (Z w.1) w w':=by
 by_cases B:0<=t/\t<=2000/\1<=n/\n<=1000
 .let⟨V_,d1,d2,d3⟩:=B
  go_in
  go_wp2
  go_loopw [3,31] (λu i wr=>∃a:N,a<=n/\i=H a/\u=H (Xo (x.take a):N)/\Xo (x.take a)<=4000/\Sw (Z w.1) w wr) λ_ i _=>n-(JB i).toNat
  .exact⟨0,aN,R,R,by simp[Xo],Xb Rf _⟩
  obtain⟨a,hk,rfl,rfl,C,g⟩:=hrel;by_cases aq:a<n
  .have P:a<J x:=oN h.o;obtain⟨ac,a0,rfl,⟨_,ao⟩,F⟩:=ha a P;let⟨T,V,L,M,e0,e1,⟨e2,e3,e4,e5⟩,K,_⟩:=F.keep (g.mono Y_) O;have P_:=Y<|K.keep (Xb (dC (Z wr.1) wr) (Sc #[X T (J x[a].1) V,X L (J x[a].2) M,H x[a].3.1,H x[a].3.a,H x[a].3.3,H x[a].3.4] 81) |>.mono (oN g.4));have f:Q (Xo (x.take<|a+1)=Xo (x.take a)+(1+J x[a].2+XZ x[a].1)):=by show _=_;rw[X7 P,Ux]
   have W:=Up x<|a+1;have v:=Y W;have aj:Xo (x.take a)+(1+J x[a].2+XZ x[a].1)<=1048576:=oN f.o;have ar:J x[a].1<=1048576:=oN<|tI x[a].1;have o:=Y<|Xb g (Sc #[X T (J x[a].1) V,X L (J x[a].2) M,H x[a].3.1,H x[a].3.a,H x[a].3.3,H x[a].3.4] 81);have az:=g.4;clear F K W;generalize x[a]=y at*;generalize C_:Xo (x.take a)=z at*;have HS:=Y C_;clear C_;go_wp2
   go_loopw [3,44] (λu i wi=>∃j:N,j<=J y.1/\i=H j/\u=H (z+(1+J y.2)+XZ (y.1.take j):N)/\Sw (Z w.1) w wi) λ_ i _=>J y.1-(JB i).toNat
   .exact⟨0,aN,R,by simp[XZ];try omega,o⟩
   obtain⟨j,hj,rfl,rfl,d⟩:=hrel;by_cases H_:j<J y.1
   .obtain⟨b,l,rfl,⟨_,ap⟩,R_,U_,y_,z_,_⟩:=P_ j H_
    have ad:E wr (A b<|l + j*2)=S (H y.1[j].1):=by have s:=(o.cell (p:=A b<|l + j*2) (by show b < _;omega));exact oB d (G s.symm y_) (by show b < _;omega)
    have af:E wr (A b<|l + j*2+1)=S (X R_ (J y.1[j].2) U_):=by have s:=(o.cell (p:=A b<|l + j*2+1) (by show b < _;omega));exact oB d (G s.symm z_) (by show b < _;omega)
    have B_:Q (XZ (y.1.take<|j+1)=XZ (y.1.take j)+(1+J y.1[j].2)):=by show _=_;rw[X7 H_,Ww]
    have W_:=Wm y.1<|j+1;have al:XZ (y.1.take j)+(1+J y.1[j].2)<=XZ y.1:=oN B_.o;clear W_ y_ z_;generalize y.1[j]=Q_ at*;generalize D_:XZ (y.1.take j)=T_ at*;have HT:=Y D_;clear D_;by_cases r:4000<z+(1+J y.2)+(T_+(1+J Q_.2))
    .go_wp2;go_ret;exact⟨Xl (UE (by have:=f.o;have:=v.o;show 4000<Xo x;omega)).symm,Xb d _⟩
    go_wp2;exact⟨⟨j+1,O,gM,by rw[B_.o];go_num,Xb d _⟩,SA⟩
   have E_:=Y<|aW (l:=y.1) (i:=j) O;by_cases r:4000<z+(1+J y.2)+XZ (y.1.take j)
   .go_wp2;go_ret;exact⟨Xl (UE (by have:=f.o;have:=v.o;have e:=E_.o;rw[e]at r;show 4000<Xo x;omega)).symm,d⟩
   go_wp2;have e:=E_.o;rw[e]at r |-;exact⟨⟨a+1,O,gM,by rw[f.o];go_num,by rw[f.o];omega,d⟩,SA⟩
  go_wp2;go_ret;have e:=aW (l:=x) (i:=a) (oN h.o);rw[e]at C;exact⟨Xl (tG V_ d1 (by have:=h.o;show 1<=J x;omega) (by have:=h.o;show J x<=1000;omega) C).symm,g⟩
 have Z_:Q (Y6 ⟨t,x⟩=Sn):=Wt (F:=⟨t,x⟩) (by have:=h.o;show ¬(0<=t/\t<=2000/\1<=J x/\J x<=1000);omega);have ab:t<0\/(0<=t/\2000<t)\/(0<=t/\t<=2000/\n<1)\/(0<=t/\t<=2000/\1<=n/\1000<n):=O;clear B;obtain q|⟨q,d1⟩|⟨q,d1,d2⟩|⟨q,d1,d2,d3⟩:=ab
 all_goals
  go_in
  go_wp2;go_ret;exact⟨Xl Z_.symm,Xb Rf _⟩
theorem Dj{F}(a:k<J F.2)(h:Jf F.1 (J F.2) F.2[k].3=Sn):J2 F=Sn:=JN a h
theorem AD(ha:Q (Xp w m k p x))(g:Q (n=J x))(T_:n<=1048576)(T:k<=Z w.1)(V:Q (T7 w)):
 Sk prog 113 #[Sa #[H t,X p n c]] w λe M=>e=Rt (Sb (J2 ⟨t,x⟩))/\Sw (Z w.1) w M:=by
 have Q_:∀u,Z (D w u).1=Z w.1+1:=λu=>sP
 go_in
 go_wp2
 go_loopw [9] (λs wr=>∃a:N,a<=n/\s=H a/\Sw (Z w.1) w wr/\Z w.1<Z wr.1/\E wr (A (Z w.1) 0)=S (H t)/\E wr (A (Z w.1) 1)=S (X p n c)/\Q ((x.take a).all (λv=>Jf t (J x) v.3)=So)) λs _=>n-(JB s).toNat
 .exact⟨0,aN,R,Xb Rf _,sP,sP,sP,R⟩
 obtain⟨a,R_,rfl,f,B,F,W,y⟩:=hrel;by_cases S_:a<n
 .have q:a<J x:=oN g.o;obtain⟨N_,u,rfl,⟨_,P_⟩,z⟩:=ha a q;let⟨W_,Y_,U_,V_,O_,e1,⟨e2,e3,e4,e5⟩,_,_⟩:=z.keep (f.mono T) O;have i:=Y<|V.keep f;have P:=Y λj=>Dj (F:=⟨t,x⟩) (k:=a) q j;have C:=Y λj=>XY (p:=λv:Xe=>Jf t (J x) v.3) q y j;rw[<-g.o]at C;clear z;generalize x[a]=L at*;have K:L.3=⟨L.3.1,L.3.a,L.3.3,L.3.4⟩:=R;have l:Q (Jf t n L.3=(Zu t 1 n ⟨L.3.1,L.3.a,L.3.3,L.3.4⟩&&!(L.3.1==2&&L.3.3==L.3.4))):=R;clear K;cases hr:Zu t 1 n ⟨L.3.1,L.3.a,L.3.3,L.3.4⟩
  .have d:=Y hr;clear hr;go_wp2_with fail
   refine(Kn ?q1).mono ?_
   case q1=>exact i.keep<|Xb (Xb Rf _) _
   rintro e h⟨rfl,b⟩;rw[Xw d];go_wp2;go_ret;exact⟨Xl (Xw P (by have e:=g.o;show Jf t (J x) L.3=Sn;rw[<-e,l.o,d.o];rfl)).symm,Xg (Xb (Xb f _) _) b⟩
  have d:=Y hr;clear hr;by_cases hq:L.3.1=2/\L.3.3=L.3.4
  .have q1:(L.3.1==2)=So:=by simp[hq.1]
   have q2:(L.3.3==L.3.4)=So:=by simp[hq.2]
   clear hq;go_wp2_with fail
   refine(Kn ?q1).mono ?_
   case q1=>exact i.keep<|Xb (Xb Rf _) _
   rintro e h⟨rfl,b⟩;rw[Xw d];have r:=b.4;simp at r;let⟨H_,I_⟩:=NC b;have L_:Z wr.1+1<Z h.1:=O;go_wp2;go_ret;exact⟨Xl (Xw P (by have e:=g.o;show Jf t (J x) L.3=Sn;rw[<-e,l.o,d.o,q1,q2];rfl)).symm,Xg (Xb (Xb f _) _) b⟩
  have J_:(L.3.1==2)=Sn\/((L.3.1==2)=So/\(L.3.3==L.3.4)=Sn):=by simp only[iS,iA];omega
  clear hq;obtain q1|⟨q1,q2⟩:=J_
  all_goals
   go_wp2_with fail
   refine(Kn ?q1).mono ?_
   case q1=>exact i.keep<|Xb (Xb Rf _) _
   rintro e h⟨rfl,b⟩;rw[Xw d];have r:=b.4;simp at r;let⟨H_,I_⟩:=NC b;have L_:Z wr.1+1<Z h.1:=O;go_wp2;have o:=Xg (Xb (Xb (dC (Z wr.1) wr) _) _) b;exact⟨⟨a+1,O,gM,Xg f o,O,oB o F B,oB o W B,by have e:=g.o;rw[<-e];exact Xw C (by show Jf t n L.3=So;rw[l.o,d.o];first|rw[q1];rfl|rw[q1,q2];rfl)⟩,SA⟩
 go_wp2;go_ret;exact⟨Xl (YE (xs:=x) (k:=a) (oN g.o) y).symm,f⟩
theorem W4(ha:Q (Xp w m k p x))(B:Q (n=J x))(hn:n<=1048576)(C:Q (∀b∈x,J b.2<=1048576))(F:k<=Z w.1)(K:Q (Uw w)):
 Sk prog 114 #[Sa #[H t,X p n c]] w λl M=>l=Rt (Sb (Z0 ⟨t,x⟩))/\Sw (Z w.1) w M:=by
 go_in
 go_wp2
 go_loopw [10] (λi wr=>∃a:N,a<=n/\i=H a/\Sw (Z w.1) w wr/\Z w.1<Z wr.1/\E wr (A (Z w.1) 0)=S (H t)/\Q ((x.take a).all (λb=>b.2.all<|Yw t 10)=So)) λi _=>n-(JB i).toNat
 .exact⟨0,aN,R,Xb Rf _,sP,sP,R⟩
 obtain⟨a,hk,rfl,g,L,T,u⟩:=hrel;by_cases ad:a<n
 .have f:a<J x:=oN B.o;obtain⟨T_,aj,rfl,⟨_,aa⟩,y⟩:=ha a f;let⟨pa,pc,ia,ic,D_,e1,⟨e2,e3,e4,e5⟩,_,V⟩:=y.keep (g.mono F) O;have W:=Y λh=>JN (p:=λb:Xe=>b.2.all<|Yw t 10) (xs:=x) (k:=a) f h;have N_:=Y λh=>XY (p:=λb:Xe=>b.2.all<|Yw t 10) f u h;have ac:=C _<|aH f;have C_:=Y V;have af:=g.4;generalize x[a]=z at*;go_wp2
  go_loopw [17] (λi S_=>∃j:N,j<=J z.2/\i=H j/\Sw (Z wr.1) wr S_/\Q ((z.2.take j).all (Yw t 10)=So)) λi _=>J z.2-(JB i).toNat
  .exact⟨0,aN,R,Xb Rf _,R⟩
  obtain⟨j,hj,rfl,e,v⟩:=hrel;have o:=Xg g e;have E_:=oB e T L;have M_:Z w.1<Z wr.1:=oN e.4;by_cases r:j<J z.2
  .obtain⟨U_,o',rfl,⟨_,ab⟩,z_⟩:=C_ j r;let⟨V_,W_,Y_,Z_,g4⟩:=z_.keep e O;have s:=Y<|K.keep o;have K_:=Y λh=>JN (p:=Yw t 10) (xs:=z.2) (k:=j) r h;have O_:=Y λh=>XY (p:=Yw t 10) r v h;generalize z.2[j]=P at*;cases hr:Yw t 10 ⟨P.1,P.2,P.a,P.b,P.5⟩
   .have d:=Y hr;go_wp2_with fail
    refine(TI ?q1).mono ?_
    case q1=>exact s.keep<|Xb Rf _
    rintro l R_⟨rfl,q⟩;rw[Xw d];go_wp2;go_ret;exact⟨Xl (Xw W<|Xw K_ d).symm,Xg (Xb o _) q⟩
   have d:=Y hr;go_wp2_with fail
   refine(TI ?q1).mono ?_
   case q1=>exact s.keep<|Xb Rf _
   rintro l R_⟨rfl,q⟩;rw[Xw d];go_wp2;exact⟨⟨j+1,O,gM,Xg (Xb e _) q,Xw O_ d⟩,SA⟩
  go_wp2;exact⟨⟨a+1,O,gM,o,M_,E_,Xw N_<|YE (xs:=z.2) (k:=j) O v⟩,SA⟩
 go_wp2;go_ret;exact⟨Xl (YE (xs:=x) (k:=a) (oN B.o) u).symm,g⟩
def N5(w:Ub)(a m:N)(b:Wc):Prop:=∃f,w.rowIs a 2 m f/\∀i,i<m->f i=Si S6 (F5 b i:N)
theorem N5.below(h:N5 w n m l)(k:Sw (Z w.1) w v):N5 v n m l:=by let⟨f,a,b⟩:=h;exact⟨f,a.of_block<|k.5 _ a.lt,b⟩
theorem N5.lt(h:N5 w n m l):n<Z w.1:=by let⟨f,a,_⟩:=h;exact a.lt
theorem N5.cell(h:N5 w n m l)(b:k<m):E w (A n k)=S (H (F5 l k:N))/\w.frozen? (A n k)=Sn:=by let⟨f,a,c⟩:=h;exact⟨by rw[a.cell b,c k b],a.frozen k⟩
theorem AN:F5 (l++[t]) T=F5 l T+if t=T then 1 else 0:=by simp only[F5,eU,aQ];by_cases h:t=T<;>simp[h]
theorem WZ(a v):F5 a v<=J a:=fJ _ _
theorem N5.step(h:N5 w n m l)(d:t=((F5 l k:N):I)+1):N5 (Se w ⟨n,k,U⟩ (Si S6 t)) n m (l++[(k:I)]):=by
 let⟨f,a,b⟩:=h;refine⟨_,a.set k _,λi c=>?_⟩;rw[AN];by_cases e:i=k
 .subst e;simp[d]
 have e2:¬(k:I)=(i:I):=O;simp only[e,fD,e2,fW];exact b i c
theorem N5.born(w:Ub)(m):N5 (D w<|Sc (madeCells #[Si S6 0] m) 2) (Z w.1) m []:=⟨_,dG _ _ _ _,λi _=>by simp[F5]⟩
def wU(a:Wi)(m:N):Prop:=∀x∈a,(∀p∈x.1,0<=p.1/\p.1<(m:I))/\∀y∈x.2,1<=y.1/\y.1<=10/\(dB y.1=So->0<=y.2/\y.2<(m:I))
theorem WE(ha:Q (Xp w k B p x))(hx:Q (m=J x))(hn:m<=1048576)(hm:n<=2000)(hs:Q (Xx x<=1048576))(hB:B<=Z w.1)(hT:Q (Uw w))(hd:Q (wU x n)):
 Sk prog 116 #[Sa #[H n,X p m c]] w λz w'=>z=Rt (Sb (JM ⟨n,x⟩))/\Sw (Z w.1) w w':=by
 have a9:=fM (P:=prog) 23 2 (H 0) 8 underlying23 RH R S6 S6 n O O
 go_in
 go_wp2
 go_loopw [18] (λi wr=>∃a:N,a<=m/\i=H a/\Sw (Z w.1) w wr/\Q (N5 wr (Z w.1+1) n (BX<|x.take a))) λi _=>m-(JB i).toNat
 .exact⟨0,aN,R,Xb (Xb Rf _) _,by have:=N5.born (D w<|Sc #[H n,X p m c] 45) n;rw[aO]at this;exact this⟩
 obtain⟨a,hk,rfl,u,C⟩:=hrel;by_cases a8:a<m
 .have P:a<J x:=oN hx.o
  obtain⟨a2,bc,rfl,⟨_,a5⟩,O_⟩:=ha a P;have HC:=Y O_;have a1:Q (BX (x.take<|a+1)=BX (x.take a)++(XG x[a].1++XI x[a].2)):=by show _=_;rw[X7 P,U0];rfl
  have a6:J (BX<|x.take a)+(J x[a].1+JG x[a].1+J x[a].2)<=1048576:=by have M:=UX x<|a+1;rw[X7 P,Vm]at M;have h2:=KP<|x.take a;have g:=hs.o;have h4:ZZ x[a]=J x[a].1+JG x[a].1+J x[a].2:=R;omega
  have ba:J x[a].1<=1048576:=O;have a7:J x[a].2<=1048576:=O;let⟨ad,af⟩:=hd _<|aH P;have ao:=Y ad;have ap:=Y af;let⟨pa,pc,V,ic,e0,e1,⟨e2,e3,e4,e5⟩,hp,hi⟩:=O_.keep (u.mono hB) O;have W_:=Y hp;have U_:=Y hi;have r:=Y<|C.below (Xb (dC (Z wr.1) wr) (Sc #[X pa (J x[a].1) pc,X V (J x[a].2) ic,H x[a].3.1,H x[a].3.a,H x[a].3.3,H x[a].3.4] 81));have a3:=C.lt;clear O_ ad af hp hi C;generalize hX:x[a]=K at*;clear hX;generalize BX (x.take a)=L at*;have bb:=u.4;go_wp2;generalize Y_:Z wr.1=M_ at*;have V_:=Y Y_;clear Y_ e0 e1 e2 e3 e4 e5
  go_loopw [25] (λi b=>∃j:N,j<=J K.1/\i=H j/\Sw (Z w.1) w b/\M_<Z b.1/\E b (A M_ 1)=S (X V (J K.2) ic)/\Q (N5 b (Z w.1+1) n (L++XG (K.1.take j)))/\Q (Jw b k B pa K.1)/\Q (YY b k B V K.2)) λi _=>J K.1-(JB i).toNat
  .have aq:=Xw V_;subst aq;exact⟨0,aN,R,Xb u _,sP,sP,by show N5 _ _ _ _;simpa [XG]using r.o,W_.keep (Xb (dC (Z wr.1) wr) _ |>.mono O),U_.keep (Xb (dC (Z wr.1) wr) _ |>.mono O)⟩
  clear r u;obtain⟨j,hj,rfl,e,F,ac,s,R_,h⟩:=hrel;have aj:=e.4;by_cases d:j<J K.1
  .obtain⟨b',o',rfl,⟨_,az⟩,aa,cc,L_,N_,_⟩:=R_ j d;have g:Q (L++XG (K.1.take<|j+1)=(L++XG (K.1.take j))++[K.1[j].1]):=by show _=_;rw[X7 d,Wj,cK]
   have hl:J (L++XG (K.1.take j))<=1048576:=by simp[XG];omega
   let⟨W,q1⟩:=ao _<|aH d;generalize K.1[j]=P_ at*;generalize L++XG (K.1.take j)=v at*;let⟨K_,ar⟩:=P_;dsimp only at W q1 L_ N_ g;obtain⟨t,rfl⟩:=bX W;have S_:t<n:=O;have f:=s.below<|Xb (dC (Z wr.1) wr) (Sc #[H t,X aa (J ar) cc] 83);let⟨k0,T⟩:=f.cell S_;have a0:=WZ v t;have y:=Y f;clear f;generalize hQ:F5 v t=Q_ at*;have l:=Y hQ;clear hQ;go_wp2;refine⟨⟨j+1,O,gM,(Xb e _).setCell SG _,by rw[Xd];simp;omega,?_,?_,?_,?_⟩,SA⟩
   .rw[cJ<|by intro z;cases z;omega];exact oB (Xb (dC (Z wr.1) wr) _) ac F
   .rw[g.o];exact y.step<|by rw[l.o]
   .exact R_.keepS<|(ZU (Xb (dC (Z wr.1) wr) _ |>.mono O)).setCell (aZ<|by dsimp only;omega) _
   exact h.keepS<|(ZU (Xb (dC (Z wr.1) wr) _ |>.mono O)).setCell (aZ<|by dsimp only;omega) _
  have o:=Y<|aW (l:=K.1) (i:=j) O;go_wp2
  go_loopw [40] (λi b=>∃j:N,j<=J K.2/\i=H j/\Sw (Z w.1) w b/\M_<Z b.1/\Q (N5 b (Z w.1+1) n (L++XG K.1++XI (K.2.take j)))/\Q (YY b k B V K.2)) λi _=>J K.2-(JB i).toNat
  .exact⟨0,aN,R,e,F,by have:=s.o;rw[o.o]at this;show N5 _ _ _ _;simpa [XI]using this,h⟩
  clear e F ac s R_ h o aj;obtain⟨j,hj,rfl,e,F,s,h⟩:=hrel;have aj:=e.4;by_cases d:j<J K.2
  .obtain⟨b',o',rfl,⟨_,az⟩,L_,N_,g2,g3,g4⟩:=h j d;have g:Q (L++XG K.1++XI (K.2.take<|j+1)=(L++XG K.1++XI (K.2.take j))++(if dB K.2[j].1 then [K.2[j].2]else [])):=by show _=_;rw[X7 d,Vx,<-cK]
   have hl:J (L++XG K.1++XI (K.2.take j))<=1048576:=by have:=TP<|K.2.take j;simp[XG]at this |-;omega
   let⟨W,q1,q2⟩:=ap _<|aH d;generalize K.2[j]=P_ at*;generalize L++XG K.1++XI (K.2.take j)=v at*;let⟨op,K_,pA,pB,pI⟩:=P_;dsimp only at W q1 q2 L_ N_ g2 g3 g4 g;obtain⟨H_,rfl⟩:=bX (show 0<=op by omega);have Z_:=hT.keep<|Xb e (Sc #[H H_,H K_,H pA,H pB,H pI] 62);let⟨bd,_,c1,_,_,_⟩:=Z_.2 H_ O O;have a4:0<Z wr.1:=O;have f:=s.below<|Xb (dC (Z wr.1) wr) (Sc #[H H_,H K_,H pA,H pB,H pI] 62);clear Z_;cases hdb:dB H_
   .rw[hdb]at c1;have J_:=Y hdb;have y:=Y f;clear hdb f q2;go_wp2;refine⟨⟨j+1,O,gM,Xb e _,SB,?_,?_⟩,SA⟩
    .rw[g.o,J_.o];show N5 _ _ _ _;simpa using y.o
    exact h.keepS<|ZU (Xb (dC (Z wr.1) wr) _ |>.mono O)
   let⟨q3,q4⟩:=q2 hdb;rw[hdb]at c1;have J_:=Y hdb;obtain⟨t,rfl⟩:=bX q3;have S_:t<n:=O;let⟨k0,T⟩:=f.cell S_;have a0:=WZ v t;have y:=Y f;clear hdb f q2;generalize hQ:F5 v t=Q_ at*;have l:=Y hQ;clear hQ;go_wp2;refine⟨⟨j+1,O,gM,(Xb e _).setCell SG _,by rw[Xd];simp;omega,?_,?_⟩,SA⟩
   .rw[g.o,J_.o,aU R];exact y.step<|by rw[l.o]
   exact h.keepS<|(ZU (Xb (dC (Z wr.1) wr) _ |>.mono O)).setCell (aZ<|by dsimp only;omega) _
  have o:=Y<|aW (l:=K.2) (i:=j) O;go_wp2;exact⟨⟨a+1,O,gM,e,by have:=s.o;rw[o.o]at this;rw[a1.o,<-cK];exact this⟩,SA⟩
 have o:=Y<|aW (l:=x) (i:=a) (oN hx.o);have r:=C.o;rw[o.o]at r;have al:=Y r;clear r C;go_wp2
 go_loop [60] (λi=>∃j:N,j<=n/\i=H j/\Q (∀q,q<j->F5 (BX x) (q:N)=1)) λi=>n-(JB i).toNat
 .exact⟨0,aN,R,λq hq=>Sz hq O⟩
 obtain⟨j,hj,rfl,ab⟩:=hrel;by_cases d:j<n
 .let⟨k0,T⟩:=al.cell d;generalize hQ:F5 (BX x) (j:N)=Q_ at*;have l:=Y hQ;clear hQ T;by_cases M:Q_=1
  .subst M;go_wp2
   go_round
   .exact⟨j+1,O,gM,λq hq=>if z:q=j then by subst z;exact l else ab q O⟩
   simp[JB];omega
  have h2:((Q_:I) != 1)=So:=by rw[jJ];omega
  have H1:=Y M;clear M;go_wp2;go_ret
  exact⟨Xl (by symm;unfold JM;rw[lZ];exact⟨j,by simpa using d,by simp only[l.o,iA];exact H1⟩),u⟩
 go_wp2;go_ret
 exact⟨Xl (by symm;unfold JM;rw[dV];intro q hq;rw[iA];exact ab q<|by simp at hq;omega),u⟩
theorem Vi(h:J2 ⟨t,x⟩=So):mp x (J x):=by
 intro a i;have d:Jf t (J x) a.3=So:=dV.1 h a i;simp only[Jf,Zu,bY,bD]at d;let⟨⟨⟨⟨⟨j,k⟩,l⟩,b⟩,f⟩,c⟩:=d;have g:a.3.1=1\/a.3.1=2\/a.3.1=3:=O;obtain e|e|e:=g
 .simp only[e,Tp]at b;simp[Yj.tg,e]at b |-;omega
 .simp only[e,Tp]at b f c;simp[Yj.tg,e]at b f c |-;refine⟨?_,c⟩;omega
 simp[Yj.tg,e]
theorem Ce(h:Z0 ⟨n,x⟩=So)(l:KL ⟨n,x⟩=So):wU x n:=by
 intro m d;constructor
 .intro p i;obtain⟨k,g,rfl⟩:=bR d;have a:=(Zr ZX ⟨n,x⟩ x 0).1 l k g;have b:=dV.1 a p i;simp only[ZX,Tp,bY,bD,gG]at b;exact b.1
 intro y j;have a:=dV.1 (dV.1 h m d) y j;simp only[Yw,bY,bD]at a;let⟨⟨⟨⟨⟨b,e⟩,c⟩,_⟩,_⟩,_⟩:=a;refine⟨b,e,λf=>?_⟩;rw[f]at c;simpa [Tp]using c
theorem V7:Xo x=J x+Xx x:=by
 induction x with
 |nil=>rfl
 |cons a x b=>
  have d:Xo (a::x)=Ul a+Xo x:=by simp[Xo]
  have e:Xx (a::x)=ZZ a+Xx x:=by simp[Xx]
  have f:XZ a.1=J a.1+JG a.1:=by
   generalize a.1=c
   induction c with
   |nil=>rfl
   |cons p c b=>simp only[XZ,JG,eH,kX,bA]at b |-;omega
  rw[d,e,b,bA];simp only[Ul,ZZ];omega
theorem FL(h:q∈x):J q.1+JG q.1+J q.2<=Xx x:=by
 induction x with
 |nil=>cases h
 |cons y a c=>
  have b:Xx (y::a)=ZZ y+Xx a:=by simp[Xx]
  obtain rfl|h:=cH.1 h;·rw[b];simp only[ZZ];omega
  have:=c h;omega
theorem Gm{a p}(h:p∈a):J p.2<=JG a:=by
 induction a with
 |nil=>cases h
 |cons y b c=>
  have d:JG (y::b)=J y.2+JG b:=by simp[JG]
  obtain rfl|h:=cH.1 h;·omega
  have:=c h;omega
theorem ti(h:J x+Xx x<=1048576):Fv x:=λd b=>by have c:=FL b;exact⟨O,O,λp a=>by have:=Gm a;omega⟩
theorem JK(v y u c a V_ C w)(ha:Q (Xp w V_ C y a))(g:Q (u=J a))(t:Q (J a+Xx a<=1048576))(K:C<=Z w.1)(X_:Q (Uw w))(hT:Q (T7 w)):
 Sk prog 63 #[Sa #[H v,X y u c]] w λh_ w'=>h_=Rt (Sb (XJ ⟨v,a⟩))/\Sw (Z w.1) w w':=by
 have l:u<=1048576:=oP g.o t.o;have M_:Xo a<=1048576:=by rw[V7];exact t
 have h:=Y<|ti t;have s:=λaj=>ha.keep<|(Xb (dC (Z w.1) w) aj).mono K;have F:=Y M_;have o:Q (XJ ⟨v,a⟩=(Y6 ⟨v,a⟩&&J2 ⟨v,a⟩&&Z0 ⟨v,a⟩&&KL ⟨v,a⟩&&JM ⟨v,a⟩)):=R;cases h1:Y6 ⟨v,a⟩
 .have b:=Y h1;have r:=Y s
  go_in
  go_wp2_with fail
  refine YU (Uz (Xw r _) g l F SB) λB k=>?_;rw[Xw b];go_wp2;go_ret;exact⟨Xl (by rw[o.o,b.o];rfl),Xg (Xb Rf _) k⟩
 have b:=Y h1;have r:=Y s;have O_:0<=v/\v<=2000:=by have j:=b.o;simp only[Y6,bY,bD]at j;omega
 obtain⟨p,rfl⟩:=bX O_.1;have hm:p<=2000:=O
 go_in
 go_wp2_with fail
 refine YU (Uz (Xw r _) g l F SB) λB k=>?_;rw[Xw b];let⟨z,ad⟩:=NC k;have P_:E B (A (Z w.1) 0)=S (H p):=by rw[z _ _ sP];simp
 have R_:E B (A (Z w.1) 1)=S (X y u c):=by rw[z _ _ sP];simp
 have m:=Xg (Xb (dC (Z w.1) w) _) k;have af:=k.4;simp at af;have M:=Y<|ha.keep (m.mono K);have Y_:=Y<|X_.keep m;have ab:=Y<|hT.keep m;have P:=Y m;go_wp2_with fail
 refine YU (AD M g l O ab) λw2 d=>?_;cases h2:J2 ⟨p,a⟩
 .have i:=Y h2;go_wp2;go_ret;exact⟨Xl (by rw[o.o,b.o,i.o];rfl),Xg P d⟩
 have i:=Y h2;have T:=Y<|Vi i;rw[<-g.o]at T;have Q_:=G (XU d O) P_;have S_:=G (XU d O) R_;have al:=d.4;have V:=Y<|M.keep (d.mono O);have L:=Y<|Y_.keep d;have W:=Y<|Xg P d;go_wp2_with fail
 refine YU (W4 V g l (λx j=>(h x j).2.1) O L) λw3 e=>?_;cases h3:Z0 ⟨p,a⟩
 .have n:=Y h3;go_wp2;go_ret;exact⟨Xl (by rw[o.o,b.o,i.o,n.o];rfl),Xg W e⟩
 have n:=Y h3;have T_:=G (XU e O) Q_;have q1:=G (XU e O) S_;have ao:=e.4;have J_:=Y<|V.keep (e.mono O);have Z_:=Y<|L.keep e;have F_:=Y<|Xg W e;go_wp2_with fail
 refine YU (AG J_ g l (λx j=>⟨(h x j).1,(h x j).2.2⟩) O T) λw4 f=>?_;cases h4:KL ⟨p,a⟩
 .have q:=Y h4;go_wp2;go_ret;exact⟨Xl (by rw[o.o,b.o,i.o,n.o,q.o];rfl),Xg F_ f⟩
 have q:=Y h4;have r0:=G (XU f O) T_;have r1:=G (XU f O) q1;have ap:=f.4;have W_:=Y<|J_.keep (f.mono O);have aa:=Y<|Z_.keep f;have U_:=Y<|Xg F_ f;go_wp2_with fail
 refine YU (WE W_ g l hm (show Xx a<=1048576 by have:=t.o;omega) O aa (Ce n q)) λw5 ac=>?_;go_wp2;go_ret;exact⟨Xl (by rw[o.o,b.o,i.o,n.o,q.o];simp),Xg U_ ac⟩
section
attribute [local go_sem] Oper.semAt_some
structure UI(x:Xe)(L B Bx n₀ n₁:N)(V:Ub):Prop where
 op:Yy V
 ter:Yb V
 blk:Tk V L B Bx 0 x
 lt:Bx<n₁
 le:B<=n₀
 g1:2 < n₀
 g2:1 < n₀
 nn:n₀<=n₁
theorem UI.same{Bx}(h:UI q n m Bx k B w)(e:∀a,a<B->v.1[a]?=w.1[a]?)(b:Z w.1<=Z v.1):UI q n m Bx k B v :=
 ⟨h.1.of_block (e _<|aX h.6 h.8) b,h.2.of_block (e _<|aX h.7 h.8) b,h.3.keepS (λa _ c=>e a<|aX (aX c h.5) h.8) (e _ h.4),h.4,h.5,h.6,h.7,h.8⟩
theorem UI.below{Bx}(h:UI q n m Bx k B w)(a:Sw (Z w.1) w v)(c:B<=Z w.1):UI q n m Bx k B v:=h.same (λi b=>a.5 i O) a.4
theorem UI.kp{Bx}(h:UI q n m Bx k B w)(a:Zf k d w v)(f:∀a,n<=a->a<m->¬d a)(l:¬d Bx)(g:¬d 2)(j:¬d 1):UI q n m Bx k B v:=by
 have o:v.1[Bx]?=w.1[Bx]?:=by let⟨s,t,p,r,c,_⟩:=h.3;exact a.block c l
 exact⟨h.1.of_block (a.2 _ h.6 g) a.1,h.2.of_block (a.2 _ h.7 j) a.1,h.3.keepS (λi e b=>a.2 i (aX b h.5) (f i e b)) o,h.4,h.5,h.6,h.7,h.8⟩
end
section
variable{F:Fence}{n:N}{P:Yh}{α:Type}
theorem Ze.keepsF{W V:Ub}{a r}(h:Ze W a r)(k:KeepsFrom a W V):Ze V a r:=⟨k.2 _ _ O h.1 R,k.2 _ _ aA h.2 R⟩
theorem JE{f V:Ub}{B a}(h:KeepsFrom B f V)(e:B<=a):KeepsFrom a f V:=⟨h.1,λk o d b c=>h.2 k o O b c⟩
end
section
variable{F:Fence}{n:N}{P:Yh}{α:Type}
def lf(F:Fence)(n:N)(P:Yh)(j:N)(k:Zh)(i:N->α->Zh)(h:N->α->Vy)(d:Ub->Vy)(p Sp:List α->Prop)(q:N)(turn m:Prop)(w:Ub):Prop :=
 ∀(l:N)(o:N->List α->Vy)(c:List α->Vy)(W:Ub),Sw (Z w.1) w W->l<Z W.1->(∀z,OwnFrom (Z W.1)<|o z)->OwnFrom (Z W.1) c->(turn->∀z s V a,Z W.1<=z->o z s V->V.grownBy a (S z)->o z s a) ->
  (m->(∀z g s V a,Z W.1<=g->o z s V->Sw (Z W.1) V a->o g s a)/\∀s V a,c s V->Sw (Z W.1) V a->c s a) ->
  (∀z b x V,Z W.1<=z->o z b V->h z x V->J b<q->YieldAt F (n-1) P l (i z x) V λe a=>(e=Rt (Sb So)/\o z (b++[x]) a/\d V a/\KeepsFrom (Z W.1) V a)\/(e=Rt (Sb Sn)/\c (b++[x]) a/\d V a/\KeepsFrom (Z W.1) V a)) ->
  (∀z V,Z W.1<=z->z<Z V.1->Sw (Z W.1) W V->o z [] V)->CallsIn F n P j (#[.func (.yield l) #[] #[]]++k) W λe V=>(∃v,e=Rt v)/\((∃z f,Z W.1<=z/\p f/\o z f V)\/∃b,Sp b/\c b V)
def DT{α:Type}(B:N)(a:World->World->Prop)(d:List α->World->Prop)(c:Code->List α->World->Prop)(b:List α)(W:World):Exit->Act->World->Prop
 |.normal,_,W'=>KeepsFrom B W W'/\a W W'/\d b W'
 |.ret,_,W'=>KeepsFrom B W W'/\a W W'/\c .ret b W'
 |.exit id,_,W'=>KeepsFrom B W W'/\a W W'/\c (.exit id) b W'
 |.goto t,_,W'=>KeepsFrom B W W'/\a W W'/\c (.goto t) b W'
 |.panic _,_,_=>False
 |.outgrown,_,_=>False
theorem nX{ao:Operand}{j:Array Tmp}{l m:Code}{Z_:Yt}{e:Act}{w:Ub}(br:F.4=U)(h1:1<=n){gf:N}{lb:Zh}(hg:e.eval ao=.func (.func gf) #[] lb)(a8:F.1 gf)(eg:∀args w,(callFunc gf args).run P w=.ok (.enter gf args) w){aa:N->α->Zh}{T:N->α->Vy}{B:Ub->Vy}{al Sp:List α->Prop}{aj:N}{turn a5:Prop}{w0:Ub}(bt:lf F (n-1) P gf lb aa T B al Sp aj turn a5 w0)(ba:∀z,OwnFrom (Z w.1)<|T z)(v:∀{p ac ad:Ub},B p ac->B ac ad->B p ad)(J_:∀(W:Ub)(y:N)(o o':Obj),Z w.1<=y->W.1[y]?=S o->o.isCells=Sn->B W (W.putObj y o'))(ar:Sw (Z w0.1) w0 w)(bn:∀z x,Z (aa z x)=Z j)(K:N->List α->Vy)(C:Code->List α->Vy)(M_:∀z,OwnFrom (Z w.1)<|K z)(H_:∀c,OwnFrom (Z w.1)<|C c)(a9:turn->∀z s V g,Z w.1<=z->K z s V->V.grownBy g (S z)->K z s g)(a2:a5->(∀z X_ s V g,Z w.1<=X_->K z s V->Sw (Z w.1+2) V g->K X_ s g)/\∀c s V g,C c s V->Sw (Z w.1+2) V g->C c s g)(h0:∀z V,Z w.1<=z->z<Z V.1->Sw (Z w.1) w V->K z [] V)(Y_:N->α->Tf)(a6:∀z x u,OwnFrom (Z w.1) λ(_:Unit) W=>Y_ z x u W)(bc:∀(y z:N)(d:List α)(x:α)(W:Ub)(af:Tf),Z w.1<=z->K z d W->T z x W->(∀u q,KeepsOthers W q->B W q->K z d q->T z x q->Y_ z x u q->af u q)->l.wpIn (F.inRound y) (n-1-1) P (Exit.then af λ_ _ _=>False) { tmps:=(j.zip<|aa z x).foldl (λT_ (p_,a4)=>T_.setIfInBounds p_ a4) e.1,defers:=[] } W)(be:∀(y z:N)(d:List α)(x:α)(u:Act)(W:Ub),Z w.1<=z->Z w.1<=y->(∃S_,W.1[y]?=S (.loop S_))->K z d W->T z x W->Y_ z x u W->J d<aj->m.wpIn (F.inRound y) (n-1-1) P (DT (Z w.1) B (K z) C (d++[x]) W) u W)(bf:∀(L z:N)(U_:List α)(W:Ub),Z w.1<=L->Z w.1<=z->al U_->K z U_ W->W.1[L]?=S (.deferred (S []))->Z_ .normal { e with defers:={ target:=.collected L,args:=#[] }:: e.2 } W)(bv:∀(L:N)(c:Code)(d:List α)(W:Ub),Z w.1<=L->Sp d->C c d W->W.1[L]?=S (.deferred (S []))->c.wpIn F n P Z_ { e with defers:={ target:=.collected L,args:=#[] }:: e.2 } W):
 (Code.rangeFunc ao j l m).wpIn F n P Z_ e w:=by
 refine wpIn_rangeFunc λfn bh=>?_;rw[br];have a1:=run_enterLoop_outer (P:=P) (w:=w) fn e.1 j l m;generalize N_:D (D w<|.deferred (S [])) (.loop { state:=.ready,pending:=U,fn,tmps:=e.1,params:=j,assign:=l,body:=m,defers:=Z w.1 })=t at a1;have aq:Ze t (Z w.1) (KR fn e.1 j l m (Z w.1) .ready U):=by
  subst N_;refine⟨?_,?_⟩
  .have:=World.alloc_heap_new (D w<|.deferred (S [])) (.loop (KR fn e.1 j l m (Z w.1) .ready U));rwa[aO]at this
  exact G (gF _ _ _ sP) (World.alloc_heap_new w _)
 have b1:Z t.1=Z w.1+2:=by subst N_;simp
 have ap:Sw (Z w.1) w t:=by subst N_;exact Xb (Xb (dC (Z w.1) w) _) _
 have a7:=ar.trans<|ap.mono ar.4;clear N_;refine⟨_,_,t,{ target:=.fn (.func gf) lb,args:=#[.func (.yield (Z w.1+1)) #[] #[]] },t,gf,#[.func (.yield (Z w.1+1)) #[] #[]]++lb,t,a1,?_,?_,?_,λ_=>h1,?_⟩
 .simp only[resolve,hg];simp[go_sem]
 .intro f' az;simp[Target.leads]at az;subst az;exact a8
 .simp[invoke,go_sem,eg]
 have ow:∀{S_:Loop}{p V:Ub}{row:Zm},Ze p (Z w.1) S_->p.grownBy V row->(∀k,row=S k->Z t.1<=k/\∃o:Obj,p.1[k]?=S o/\o.isCells=Sn)->Ze V (Z w.1) S_:=λab k r=>ab.own k (λz h=>by have:=(r z h).1;omega);have fr:∀{p:Ub}{row:Zm},(∀k,row=S k->Z t.1<=k/\∃o:Obj,p.1[k]?=S o/\o.isCells=Sn)->∀k,row=S k->Z w.1<=k/\∃o:Obj,p.1[k]?=S o/\o.isCells=Sn:=λr k h=>⟨oN<|(r k h).1,(r k h).2⟩
 refine(bt (Z w.1+1) (λz d W=>K z d W/\Ze W (Z w.1) (KR fn e.1 j l m (Z w.1) .ready U)) (λd W=>∃c,C c d W/\Ze W (Z w.1) (KR fn e.1 j l m (Z w.1) .done<|S c)) t a7 O
  (λz s p V row i k r=>⟨M_ z s p V row i.1 k<|fr r,ow i.2 k r⟩) (λs p V row i k r=>by let⟨c,hc,f⟩:=i;exact⟨c,H_ c s p V row hc k<|fr r,ow f k r⟩) (λht z s V g Q_ i k=>⟨a9 ht z s V g O i.1 k,i.2.own k λr h=>by injection h with h;omega⟩)
  (λa=>⟨λz X_ s V g Q_ i k=>⟨(a2 a).1 z X_ s V g O i.1 (k.mono O),⟨G (k.5 _ O) i.2.1,G (k.5 _ O) i.2.2⟩⟩,λs V g i k=>by let⟨c,hc,f⟩:=i;exact⟨c,(a2 a).2 c s V g hc (k.mono O),⟨G (k.5 _ O) f.1,G (k.5 _ O) f.2⟩⟩⟩) ?_ λz V Q_ bx hV=>⟨h0 z V O bx<|ap.trans (hV.mono O),⟨G (hV.5 _ O) aq.1,G (hV.5 _ O) aq.2⟩⟩).mono ?_
 .rintro z d x W Q_⟨K_,f⟩ bp bm;have hy:=run_yield (P:=P) f.1 (bn z x);refine⟨_,_,_,_,hy,roundIn_of_wpIn bh<|bc _ z d x W _ O K_ bp λu q a0 bl bi bq bd=>?_⟩;have M:=f.keeps a0;refine⟨_,run_beginRound M.1 R,?_⟩;have L_:Ze (q.putObj (Z w.1+1) (.loop (KR fn e.1 j l m (Z w.1) .busy U))) (Z w.1) (KR fn e.1 j l m (Z w.1) .busy U):=M.put _;have O_:B W (q.putObj (Z w.1+1) (.loop (KR fn e.1 j l m (Z w.1) .busy U))):=v bl<|J_ _ _ _ _ O M.1 R;refine wpIn_mono (be _ z d x u _ O O ⟨_,L_.1⟩ ((M_ z).putObj _ bi O M.1 R) ((ba z).putObj _ bq O M.1 R) ((a6 z x u).putObj (s:=()) _ bd O M.1 R) bm) ?_;have R_:∀{V:Ub}(o:Obj),KeepsFrom (Z w.1) (q.putObj (Z w.1+1) (.loop (KR fn e.1 j l m (Z w.1) .busy U))) V->KeepsFrom (Z t.1) W (V.putObj (Z w.1+1) o):=λ{V} o ab=>(((a0.from _).trans (KeepsFrom.of_grownBy (grownBy_putObj' q _ _) λb0 h=>by cases h;omega)).trans (JE ab O)).trans (KeepsFrom.of_grownBy (grownBy_putObj' V _ _) λb0 h=>by cases h;omega);rintro h a3 V b;cases h with
  |normal=>
   have a:=L_.keepsF b.1;exact⟨_,_,a.fin U,.inl ⟨R,⟨(M_ z).putObj _ b.2.2 O a.1 R,a.put _⟩,v (v O_ b.2.1) (J_ _ _ _ _ O a.1 R),R_ _ b.1⟩⟩
  |ret=>
   have a:=L_.keepsF b.1;exact⟨_,_,a.fin<|S .ret,.inr ⟨R,⟨.ret,(H_ _).putObj _ b.2.2 O a.1 R,a.put _⟩,v (v O_ b.2.1) (J_ _ _ _ _ O a.1 R),R_ _ b.1⟩⟩
  |exit id=>
   have a:=L_.keepsF b.1;exact⟨_,_,a.fin<|S (.exit id),.inr ⟨R,⟨.exit id,(H_ _).putObj _ b.2.2 O a.1 R,a.put _⟩,v (v O_ b.2.1) (J_ _ _ _ _ O a.1 R),R_ _ b.1⟩⟩
  |goto T_=>
   have a:=L_.keepsF b.1;exact⟨_,_,a.fin<|S (.goto T_),.inr ⟨R,⟨.goto T_,(H_ _).putObj _ b.2.2 O a.1 R,a.put _⟩,v (v O_ b.2.1) (J_ _ _ _ _ O a.1 R),R_ _ b.1⟩⟩
  |panic ch=>exact b.elim
  |outgrown=>exact b.elim
 rintro h V⟨⟨a4,rfl⟩,(⟨z,U_,Q_,hS,K_,f⟩|⟨d,bb,c,K_,f⟩)⟩;·exact⟨U,_,run_endLoop f.1 (by simp[KR]),bf _ z U_ _ aA O hS ((M_ z).putObj _ K_ O f.1 R) (f.put _).2⟩
 exact⟨S c,_,run_endLoop f.1 (by simp[KR]),bv _ c d _ aA bb ((H_ c).putObj _ K_ O f.1 R) (f.put _).2⟩
end
theorem Bu(n k):Us n k <+: Us n 0:=by unfold Us;rw[show n-0=n by omega,aW (by simp:J (List.finRange n).reverse<=n)];exact List.take_prefix _ _
theorem ED{F:Fence}(v:F.1 201)(T:F.4=U)(Y_:1<=n)(C:N)(j:Vv)(r:Uy){a:Vr}(Z_:J a<=1000000)(L:∀b,g<=b->b<i->¬j b)(M:¬j k)(u p:List (Fin (J a))->Vy)(K:∀(d:List (Fin (J a)))(x:Fin (J a))(w:Ub),u d w->J d<J a->YieldAt F (n-1) prog m #[H ((x:N):I),mj a[x]] w λf e=>
  (f=Rt (Sb So)/\u (d++[x]) e/\Zf B j w e)\/(f=Rt (Sb Sn)/\p (d++[x]) e))(V:E w (A k 0)=S (X r (J a) C))(P:Q (YY w g i r a))(W:u [] w):
 CallsIn F n prog 201 #[.func (.yield m) #[] #[],Hn k] w λf e=>(∃U_,f=Rt U_) /\
  ((∃y,y=Us (J a) 0/\u y e)\/(∃d,(∃q,d=Us (J a) q)/\p d e)):=by
 refine iD func201 R v ?_ T;simp only[ntmps201,xY,Nat.reduceAdd,Nat.reduceSub];gi_wp2
 gi_loopw [3] (λo wr=>∃(b:N)(z:I),b<=J a/\o=H z/\z+1=(b:I)/\u (Us (J a) b) wr/\Zf B j w wr)
  (λo _=>(JB o+1).toNat)
 .exact⟨J a,_,aA,R,O,by rw[Ua];exact W,Zf.refl _⟩
 obtain⟨b,z,R_,rfl,ab,s,c⟩:=hrel;have X_:=c.cell V M;cases b with
 |zero=>
  have l:z=-1:=O;subst l;gi_wp2
  go_end0
  exact⟨⟨_,R⟩,.inl ⟨_,R,s⟩⟩
 |succ q=>
  have l:z=(q:I):=O;subst l;have hq:q<J a:=R_;let⟨A_,ac,D_,t,Q_⟩:=P q hq;subst D_;have h:=L A_ t.1 t.2;let⟨v_,q1,q2,q3,q4⟩:=Q_;have r0:=c.cell v_ h;have r1:=c.cell q1 h;have r2:=c.cell q2 h;have r3:=c.cell q3 h;have r4:=c.cell q4 h;let⟨W_,tmps,assign,body,u_,N_⟩:=K _ ⟨q,hq⟩ wr s (by rw[Vf];omega);have aa:(Instr.yield m #[H ((q:N):I),Sa #[H a[q].1,H a[q].2,H a[q].a,H a[q].b,H a[q].5]]).run prog wr=_:=u_;gi_wp2;refine N_.mono ?_;rintro f V_ (⟨rfl,I_,S_⟩|⟨rfl,K_⟩)
  .gi_wp2
   go_roundw
   .exact⟨q,_,O,R,O,by rw[TJ hq];exact I_,c.trans S_⟩
   simp[JB]
  gi_wp2;refine cC (gV R _ _ _) R ?_;exact⟨⟨_,R⟩,.inr ⟨_,⟨q,(TJ hq).symm⟩,K_⟩⟩
theorem VE(F:Fence)(e:N)(i:F.1 201)(v:F.4=U)(t:1<=e)(c:Vv){a:Vr}(u:J a<=1000000)(M:g<=m)(o:∀b,B<=b->b<g->¬c b)(q:¬c n)(P:m<=Z w.1)(j:n<Z w.1)(s:E w (A n 0)=S (X p (J a) k))(l:Q (YY w B g p a)):
 SeqStopsK F e prog 201 #[Hn n] (λx:Fin (J a)=>#[H ((x:N):I),mj a[x]]) (Zf m c) (λK=>K=Us (J a) 0) (λy=>∃z,y=Us (J a) z) (J a) w:=λT L f W d _ _ r h=>
 ED i v t k c p u o q L f r (oB d s j) (Y<|l.keepS λb _ C=>d.5 b O) h
def jm(W:Wk)(x:N):Wk:=λi=>if i=x/64 then W i&&&(18446744073709551615-2^(x%64))else W i
theorem uS(h:n<64):2^n<18446744073709551616:=aX (lB vY h) vY
theorem EJ:Xh (jm f n) m=(Jd (m≠n)&&Xh f m):=by
 unfold Xh jm;by_cases e:m/64=n/64
 .rw[aU e,jW,qA (uS<|dS _ vY) (dS _ vY),nE];by_cases h:n%64=m%64
  .have:m=n:=O;simp[this]
  have:m≠n:=λq=>h (by rw[q]);simp[h,this]
 rw[aM e];have:m≠n:=λq=>e (by rw[q]);simp[this]
theorem FN(h:XA f)(x):XA (jm f x):=λi=>by
 unfold jm;split;·exact iC jB<|h i
 exact h i
def Js(W:Wk)(a:Wa):Wk:=a.foldl jm W
theorem Ch{W}(h:n<J s):Js W (s.take<|n+1)=jm (Js W<|s.take n) s[n]:=by unfold Js;rw[bN h,dT];rfl
theorem JX:∀(a:Wa){W:Wk},XA W->XA (Js W a)
 |[],_,h=>h
 |t::a,_,h=>JX a<|FN h t
theorem Kt:∀(a:Wa)(W:Wk)(y:N),Xh (Js W a) y=(Jd (y∉a)&&Xh W y)
 |[],_,_=>by simp[Js]
 |t::a,W,y=>by have h:=Kt a (jm W t) y;have e:Js W (t::a)=Js (jm W t) a:=R;rw[e,h,EJ];by_cases b:y=t<;>by_cases c:y∈a<;>simp[b,c]
theorem Bn(c:m<64)(b:n<18446744073709551616):bits .andNot .u64 (n:I) (IntKind.u64.wrap<|2^m)=((n&&&(18446744073709551615-2^m):N):I):=by
 have a:=uS c;have e:IntKind.u64.wrap (2^m)=((2^m:N):I):=by rw[iV];have:((2^m:N):I)=(2:I)^m:=sP;rw[<-this];exact mB (kF _) (Int.ofNat_lt.2 a)
 rw[e,kM _ _ b a]
theorem JL(c o L w)(ha:Q (Xf w L g o<|s.map Int.ofNat))(y:Q (B=J s))(hn:B<=4000)(M:Q (∀t∈s,t<64*m))(hK:m<=1000)(F:Q (XA f))(x:Q (Cp w n m k f))(V_:g<=Z w.1)(Z_:¬(L<=n/\n<g)):
 Sk prog 125 #[Sa #[Hl n m k],X o B c] w λe z=>e=Rt (St #[])/\w.grownBy z (S n)/\Cp z n m k (Js f s):=by
 go_in
 go_wp2;have Y_:=x.lt
 go_loopw [8] (λu wr=>∃q:N,q<=B/\u=H q/\Q (w.grownBy wr<|S n)/\E wr (A (Z w.1) 0)=S (Hl n m k)/\Q (Cp wr n m k<|Js f (s.take q))) λu _=>B-(JB u).toNat
 .exact⟨0,aN,R,Y<|bW _ _ _,sP,Y<|x.alloc _⟩
 obtain⟨q,hq,rfl,d,K,a⟩:=hrel;by_cases aa:q<B
 .have l:q<J s:=oN y.o
  obtain⟨p,P,rfl,W_,r⟩:=ha q (by simpa using l);have j:=G (Xc<|d.5 p O λe=>by injection e with e;omega) r;rw[cM]at j;have ad:=M _<|aH l;have T:=Y<|Ch (W:=f) l;have V:=Y<|JX (s.take q) F;generalize s[q]=t at*;have T_:=rh t;have U_:=rg t;have Q_:Cl wr p (P+q) (H t):=j;generalize Js f (s.take q)=h at*;have v:t/64<m:=O;have W:t%64<64:=dS _ vY;have R_:=a.cell v;have S_:=a.frozen;have C:=Y<|Bn W (V<|t/64);have A_:Q (∀i,(if i=t/64 then h (t/64)&&&(18446744073709551615-2^(t%64))else h i)=Js f (s.take<|q+1) i):=Y (λi=>by
   rw[T.o];unfold jm;by_cases e:i=t/64;·rw[aU e,aU e,e]
   rw[aM e,aM e])
  generalize X_:t/64=b at*;generalize ab:t%64=P_ at*;go_wp2;go_region;go_wp2;rw[C.o];have N_:wr.grownBy (Se wr (A n b) (Si .u64 ((h b&&&(18446744073709551615-2^P_):N):I))).drew (S n):=⟨R,R,R,by simp[World.setCell,World.drew],λaj _ I_=>cY λe=>I_<|by rw[e]⟩;refine⟨⟨q+1,O,gM,Y (d.andThen N_ λaf H_=>by cases H_;exact aZ R),?_,Y ?_⟩,SA⟩;·exact G (bH wr (A n b) (A (Z w.1) 0) _ (by show n≠Z w.1;omega)) K
  refine Cp.drew ((a.set b _ v).congr λi _=>?_);rw[<-A_.o i]
 have ac:q=B:=O;have F_:Q (s.take q=s):=Y<|aW (oN y.o);rw[F_.o]at a;go_wp2
 go_end0
 exact⟨R,d,a⟩
theorem BV(y:Q (Cp w n m k f))(hK:m<=1000):
 Sk prog 167 #[Hl n m k] w λe C=>∃b d,e=Rt (Hl b m d)/\Z w.1<=b/\Sw (Z w.1) w C/\Cp C b m d f:=by
 let⟨L,F,P,T,K⟩:=fX Qg;have O_:∀(w:Ub)(g:Uy)(o c p h:N),(binOp .eql 121 (X g o c) (X U p h)).run prog w=.ok (Sb g.isNone) w:=λw g o c p h=>Lib.run_eql_slice_nil w _ _ g o c p h underlying121;have N_:=y.lt;have q:Q (Sx (D w<|Sc #[] 221) (Z w.1) 221 1 (Hl (Z w.1) 0 0) 0 []):=Y<|eI (base:=Z w.1) (e:=221) (size:=1) w #[] 0 sP sP R
 go_in
 go_wp2_with (at_builtin;refine fT _ R _ _ 121 R (Z w.1) 221 L (Si .u64 0) 1 8 underlying121 F P T K R vY _ _ _ R q (A n 0) m k ((Rg m).map λi=>Si .u64 (f i:I)) R ?c0 ?c1 ?c2 ?c3 ?c4 ?c5 ?_)
 case c0=>simp
 case c1=>
  intro l M a;rw[dX]at a;by_cases e:l<m
  .rw[iQ e]at a;simp at a;subst a;have:=(y.alloc<|Sc #[] 221).cell e;have e2:((A n 0):Addr).add l=(A n l):=by rw[mK];simp
   rw[e2];exact this
  rw[dK<|by simp;omega]at a;cases a
 case c2=>
  intro M V;obtain⟨i,_,rfl⟩:=aY.1 V;rfl
 case c3=>unfold maxLen;omega
 case c4=>omega
 case c5=>simp
 intro v1 B u s t;have z:v1≠Hq:=by simpa using t
 have r:=Xy (Xb (dC (Z w.1) w) _) s q aA sP;have v:Sx B (Z w.1) 221 1 v1 (J ((Rg m).map f)) (((Rg m).map f).map λx:N=>Si .u64 x):=by have e:(((Rg m).map f).map λx:N=>Si .u64 x)=(Rg m).map λi=>Si .u64 (f i:I):=sP;rw[e];simpa using u
 obtain⟨b,d,rfl,W,j⟩:=Cp.of_own v z;have C_:=Y r;have D_:Q (Cp B b m d f):=Y (by have e:J ((Rg m).map f)=m:=sP;rw[e]at j;exact j.congr λi F_=>by simp[F_])
 have e:J ((Rg m).map f)=m:=sP;rw[e];go_wp2;go_ret;exact⟨_,_,R,W,C_,D_⟩
theorem Kk(g K C W w)(q:Q (Cp w g K C W))(hK:K<=1000):
 Sk prog 123 #[Sa #[Hl g K C]] w λe j=>∃b c,e=Rt (Sa #[Hl b K c])/\Z w.1<=b/\Sw (Z w.1) w j/\Cp j b K c W:=by
 go_in
 go_wp2_with fail
 have m:Q (Sw (Z w.1) w<|D (D w<|Sc #[Hl g K C] 126) (Sc #[Hq] 126)):=Y<|Xb (Xb Rf _) _;have v:Z (D (D w<|Sc #[Hl g K C] 126) (Sc #[Hq] 126)).1=Z w.1+2:=sP;have r:=(q.alloc<|Sc #[Hl g K C] 126).alloc (Sc #[Hq] 126);have p:(λk:Ub=>E k (A (Z w.1+1) 0)=S Hq/\k.frozen? (A (Z w.1+1) 0)=Sn) (D (D w<|Sc #[Hl g K C] 126) (Sc #[Hq] 126)):=⟨SC,SC⟩;generalize D (D w _) _=t at*;let⟨f,h⟩:=p;refine(BV (Y r) hK).mono ?_;rintro e s⟨d,l,rfl,u,a,i⟩;have f1:=G (XU a O) f;have f2:s.frozen? (A (Z w.1+1) 0)=Sn:=by rw[bJ (w:=t) (a:=(A (Z w.1+1) 0)) (a.5 _<|by show Z w.1+1<_;omega)];exact h
 have n:=Y<|Xg m a;have o:=Y i;go_wp2_with fail
 refine YL (v:=Sa #[Hl d K l]) ?_;exact⟨_,_,R,O,n.setCell (by show Z w.1<=Z w.1+1;omega) _,o.setOther (by show d≠Z w.1+1;omega) _⟩
theorem Ki(l)(a:Uy)(c)(s:n<=1000):
 Sk prog 64 #[Sa #[H l,X a n c]] w λi d=>∃f b,i=Rt (Hn f)/\Z w.1<=f/\Z w.1<=b/\Sw (Z w.1) w d/\YW d f b (Z d.1) ((n+63)/64) a n c (λ_=>0) Hq []:=by
 have o:=Y λW=>Tt n W O
 go_in
 go_wp2_with fail
 refine Y7 (λd=>E d (A (Z w.1) 1)=S (X a n c)) λig=>?_;refine Xn 0 ?_;(iterate 4 refine Rm ?_);refine Xs 5 λK hK=>?_;go_simp
 go_at_call 117
 refine(o _).mono ?_;rintro i h⟨b,rfl,k,e,g⟩;have t:Z w.1+1<=Z h.1:=by have:=e.4;simp at this;omega
 have j:Cl h (Z w.1) 1 (X a n c):=G (e.cell (p:=A (Z w.1) 1) (by show Z w.1<_;simp)) SC;have r:=g.lt;have m:=Y<|Xg (w1:=(D w<|Sc #[H l,X a n c] 45).drew) (Xb Rf _).drew e;have p:=Y g;have q:Z w.1<=b:=by simp at k;omega
 refine hK _ _ j λig=>?_;refine Xn 6 ?_;refine Xs 7 λK hK=>?_;go_simp;refine hK _ _ (G (bP _ _ _<|by show Z w.1<_;omega) j) λig=>?_;refine Xn 8 ?_;refine Yq ?_;go_wp2;go_ret;refine⟨Z h.1,b,R,O,q,Xb m _,⟨sP,sP,sP,λu=>sP,p.alloc _,dA,sP,SB,O,aA⟩⟩
theorem Tg(e d o r)(v:Uj)(W:Ub)(K:W.rowIs n 2 k h)(P:m<=k)(L:v.oneCell'=So)(q:g=Nat.min B (k-m))(C:∀j,j<g->E W (A d<|o+j)=S v):
 ∃b,Sem.run prog (Builtin.copy_ #[23,23] 3 #[Hm n m (k-m) e,Hm d o B r]) W=.ok (goInt g) b/\W.grownBy b (S n)/\b.rowIs n 2 k (λi=>if m<=i/\i<m+g then v else h i):=by
 let⟨c,l,w,x⟩:=K;have T:g<=k-m:=q▸kQ _ _
 have f:=run_copy_row (P:=prog) W 23 23 3 2 n m (k-m) e (A d o) B r c 2 (List.replicate g v) underlying23 vZ l (kN▸q) (λj F a=>by
  rw[mI]at a;split at a
  .rename_i z;injection a with a;rw[<-a];rw[mK];exact C j z
  cases a) (by rw[kN];omega) λF M=>(List.eq_of_mem_replicate M)▸L
 rw[kN]at f;refine⟨_,f,⟨R,R,R,sP,λj _ a=>setRow_other _ _ _ _ λu=>a<|by rw[u]⟩,⟨_,setRow_heap _ _ _ _ _ _ l,?_,λi y=>?_⟩⟩;·simp[w];omega
 have p:=x i y;simp only[List.getElem?_toArray];by_cases s:i<m
 .rw[aM O,dL SB,dL SB,fH s];simpa using p
 by_cases t:i<m+g
 .rw[aU ⟨O,t⟩,dL SB,eV<|by simp;omega];simp[mI];omega
 rw[aM O,eV SB,jA];have:m+g+(i-J (List.take m c.1++List.replicate g v))=i:=SB
 rw[this];simpa using p
theorem CK(a:n<=2000):bits .and .u64 (n:I) 4294967295=(n:I):=by
 have h:n&&&4294967295=n:=by have:=kO n 32;rw[show(2^32-1:N)=4294967295 from R]at this;rw[this];omega
 rw[show(4294967295:I)=((4294967295:N):I)from R,jH _ _ O vY,h]
theorem CC(w:Ub)(a:n<=2000):
 Sk prog 210 #[Si .u64 1,Si .u64 n] w λe b=>e=Rt (St #[Si .u64 0,Si .u64 n])/\b=w:=by
 have d:bits .and .u64 1 4294967295=1:=vY;have c:bits .and .u64 0 4294967295=0:=vY;have f:=CK a;have g:(n:I)/4294967296=0:=O;have i:IntKind.u64.wrap (n:I)=n:=by simp[IntKind.wrap,IntKind.bits,IntKind.signed];omega
 have h:IntKind.u64.wrap 0=0:=vY
 go_in
 go_wp2_with fail
 refine YL (v:=St #[Si .u64 0,Si .u64 n]) ⟨R,R⟩
theorem EW(w:Ub)(b:n<=2000):
 Sk prog 183 #[Si .u64 1,Si .u64 n] w λe c=>e=Rt (St #[Si .u64 0,Si .u64 n])/\c=w:=by
 have a:=Y λW=>CC W b
 go_in
 go_wp2_with fail
 refine YU (a _) ?_;rintro d rfl;go_wp2_with fail
 refine YL (v:=St #[Si .u64 0,Si .u64 n]) ⟨R,R⟩
theorem vb(g n:N)(w:Ub)(L:n<=2000)(x:E w (A g 0)=S (H (-1)))(M:g<Z w.1):
 Sk prog 141 #[Hl g 1 1,H n] w λe F=>∃h,e=Rt (Hl h n n)/\Z w.1<=h/\Sw (Z w.1) w F/\F.rowIs h 2 n (λ_=>H (-1)):=by
 have P:=Y λW=>EW W L;have Y_:=fM (P:=prog) 23 2 (H 0) 8 underlying23 RH R S6 S6 n O O;let⟨a,d⟩:∃a,a=Nat.min 1 (n-0):=⟨_,R⟩;have T:a<=1:=d▸mQ _ _;have p:a<=n:=by have:=kQ 1<|n-0;rw[d];omega
 have B:0<n->1<=a:=λt=>d▸Nat.le_min.2 ⟨aA,O⟩
 let⟨K,l,y,C⟩:=Tg n g 0 1 (H (-1)) (D w<|Sc (madeCells #[H 0] n) 2) (dG w (H 0) n 2) aN R d (λo V=>by have:o=0:=O;subst this;exact G (bP _ _ _ M) x)
 rw[Nat.sub_zero]at l;have s:=Y C;have q_:=Y y;clear C y d
 go_in
 go_wp2_with fail
 refine YU (P _) λT_ q=>?_;rw[q];clear q T_;go_wp2_with fail
 generalize Jd ((n:I)<0)=U_;generalize Jd (9223372036854775807<(n:I))=V_;have r_:Q (K.rowIs (Z w.1) 2 n λi=>H<|if i<a then -1 else 0):=Y (s.congr (λi _=>by by_cases t:i<a<;>simp[t]));have p_:=Y ((Xb (dC _ w) _).grown q_ sP λk e=>by cases e;exact aA);clear l x
 go_loopw [8] (λu wr=>∃k:N,(0<n->1<=k)/\k<=n/\u=H k/\Q (Sw (Z w.1) w wr)/\Q (wr.rowIs (Z w.1) 2 n λi=>H<|if i<k then -1 else 0)) λu _=>n-(JB u).toNat
 .exact⟨a,B,p,R,p_,r_⟩
 obtain⟨k,P_,Q_,rfl,f,b⟩:=hrel;by_cases X_:k<n
 .let⟨m,c⟩:∃m,m=Nat.min k (n-k):=⟨_,R⟩;have T:m<=k:=c▸mQ _ _;have p:m<=n-k:=c▸kQ _ _;have B:0<m:=c▸Nat.lt_min.2 ⟨P_ O,O⟩
  let⟨L_,l,z,r⟩:=Tg (n-k) (Z w.1) 0 n (H (-1)) wr.drew b Q_ R c (λo V=>by rw[aV];have:=b.cell (i:=o) O;rw[aU O]at this;exact this)
  have J_:Q (L_.rowIs (Z w.1) 2 n λi=>H<|if i<k+m then -1 else 0):=Y (r.congr (λi _=>by
   by_cases j:i<k
   .simp[j];omega
   by_cases v:i<k+m;·simp[j,v]
   simp[j,v]))
  have G_:=Y (f.drew.grown z f.4 λk e=>by cases e;exact aA);clear f b r z c;go_wp2;go_region;go_wp2;exact⟨⟨k+m,λ_=>O,O,gM,G_,J_⟩,SA⟩
 have:k=n:=O;subst this;have H_:Q (wr.rowIs (Z w.1) 2 k λ_=>H (-1)):=Y (b.congr λi N_=>by simp[N_]);clear b;go_wp2;go_ret;exact⟨_,R,aA,f,H_⟩
theorem BK(b)(w:Ub)(f:n<=1000)(_h0:0<n)(d:E w (A b 0)=S (H (-1)))(c:b<Z w.1):
 Sk prog 141 #[Hl b 1 1,H n] w λe a=>∃g,e=Rt (Hl g n n)/\Z w.1<=g/\Sw (Z w.1) w a/\a.rowIs g 2 n (λ_=>H (-1)) :=
 vb b n w O d c
section
def Yu{T:Type}(f:N->T->List Value):N->List T->List Value
 |_,[]=>[]
 |k,x::xs=>f k x++Yu f (k+1) xs
variable{T:Type}{f f':N->T->Wo}{sz:N}
theorem Zn(b:∀k x,J (f k x)=sz):∀(k:N)(a:List T),J (Yu f k a)=J a*sz
 |_,[]=>by simp[Yu]
 |k,x::a=>by rw[Yu,aQ,b,Zn b,bA,jK,jL,yy]
theorem Xz(b:∀k x,J (f k x)=sz):∀(k:N)(a:List T)(i:N)(h:i<J a)(q:N),q<sz->(Yu f k a)[i*sz+q]?=(f (k+i) a[i])[q]?
 |_,[],_,h,_,_=>Sz h sP
 |k,x::a,0,_,q,hq=>by rw[Yu,lC,aV,dL<|by rw[b];exact hq];rfl
 |k,x::a,i+1,h,q,hq=>by rw[Yu,eV (by rw[b,jK,jL];omega),b,show(i+1)*sz+q-sz=i*sz+q by rw[jK,jL];omega,Xz b (k+1) a i SI q hq,fO,show k+1+i=k+(i+1) by omega]
theorem Zo:∀(k:N)(a:List T)(x:T),Yu f k (a++[x])=Yu f k a++f (k+J a) x
 |k,[],x=>by simp[Yu]
 |k,y::a,x=>by rw[cW,Yu,Yu,Zo (k+1) a x,cK,bA,show k+1+J a=k+(J a+1) by omega]
structure Xv(w:Ub)(lab:N->N×N×N)(L:N×N×N)(base t sz:N)(v:Uj)(n:N)(cs:Wo):Prop where
 own:Sx w base t sz v n cs
 lab:∀b,v.ownBlock=S b->lab b=L
theorem Zl{w w':Ub}{a t sz:N}{v:Uj}{n}{c:Wo}(h:Sx w a t sz v n c)(o:∀b,v.ownBlock=S b->w'.1[b]?=w.1[b]?):Sx w' a t sz v n c:=by
 obtain⟨d,h|⟨g,e,i,j,l,m,k⟩⟩:=h;·exact⟨d,bC h⟩
 subst j;exact⟨d,aZ ⟨g,e,i,R,l,G (o g R) m,k⟩⟩
theorem Xv.keep{w w'}{d g:N->N×N×N}{L:N×N×N}{a t sz v n c}(h:Xv w d L a t sz v n c)(k:∀b,a<=b->b<Z w.1->d b=L->w'.1[b]?=w.1[b]?/\g b=L):Xv w' g L a t sz v n c :=
 ⟨Zl h.1 λb e=>(k b (h.1.lt b e).1 (h.1.lt b e).2 (h.2 b e)).1,λb e=>(k b (h.1.lt b e).1 (h.1.lt b e).2 (h.2 b e)).2⟩
theorem Xv.set{w}{d:N->N×N×N}{L:N×N×N}{a t sz g n c b}(h:Xv w d L a t sz (X (S ⟨g,0,U⟩) n c) n b)(q)(u:Uj):Xv (Se w ⟨g,q,U⟩ u) d L a t sz (X (S ⟨g,0,U⟩) n c) n (b.set q u):=⟨qO h.1 u,h.2⟩
theorem Xv.thaw{w}{d:N->N×N×N}{L:N×N×N}{a t sz g n c b}(h:Xv w d L a t sz (Hl g n c) n b)(q):w.frozen? (A g q)=Sn:=h.1.frozenAt q
theorem Xv.cell{w}{e:N->N×N×N}{L:N×N×N}{b t sz g n c a}(h:Xv w e L b t sz (Hl g n c) n a){q:N}{u:Uj}(d:a[q]?=S u):E w (A g q)=S u:=Jj h.1 d
theorem Xv.blk{w}{b:N->N×N×N}{L:N×N×N}{a t sz g n c d}(h:Xv w b L a t sz (Hl g n c) n d):(a<=g/\g<Z w.1)/\b g=L:=⟨h.1.lt g R,h.2 g R⟩
theorem Xv.got{w}{lab:N->N×N×N}{L:N×N×N}{a t sz n v b}(h:Xv w lab L a t sz v n b)(d:0<n):∃g c,v=X (S ⟨g,0,U⟩) n c:=by let⟨g,c,e,_⟩:=Xm h.1 d;exact⟨g,c,e⟩
theorem Xv.form{w}{lab:N->N×N×N}{L:N×N×N}{b t sz n v d}(h:Xv w lab L b t sz v n d):∃a c,v=X a n c:=by
 obtain⟨e,h0⟩|⟨g,cap,_,e,_⟩:=h.1.2;·exact⟨U,0,by rw[e,h0]⟩
 exact⟨_,_,e⟩
end
section
variable{P:Program}{w:World}{ops:Array Oper}{o:Oper}{a:Act}{K:Act->World->Prop}{Q_:Exit->Act->World->Prop}{E_:Prop}{s x:Operand}{t e base size bytes n m c g:N}{z v:Value}{xs news:List Value}{ad:Addr}{f:N×N}
theorem YD(b:(P.info? e).map (λi=>(i.8,i.3,i.4))=S (S z,size,bytes))(hown:Sx w base e size v n xs)(hn:∀j u,news[j]?=S u->E w (ad.add j)=S u)(h1:∀u∈news,u.oneCell'=So)(h:Q (∀v' w',Sx w' base e size v' (n+m) (xs++news)->w.grownBy w' v.ownBlock->(v'=X U 0 0↔v=X U 0 0/\m=0)->(v'.ownBlock=v.ownBlock\/v'.ownBlock=S (Z w.heap))->K (a.put o.dst v') w'))(hg:o.guard=U:=by rfl)(ho:o.op=.call {callee:=.builtin .append,args:=#[s,x],argTypes:=#[t,t]}:=by exact rfl)(es:a.eval s=v:=by first|exact rfl|simp[Act.eval])(ex:a.eval x=X (S ad) m c:=by first|exact rfl|simp[Act.eval])(hl:J news=m*size:=by rfl)(hb:(n+m)*bytes<=140737488355328:=by first|omega|(dsimp only;omega))(hs:base<=Z w.heap:=by first|omega|(simp;omega)|simp)(ht:P.underlying t=S (.slice e):=by kernel_rfl)(hz:Z z.cells=size:=by rfl)(hp:0<size/\0<bytes:=by decide):if Region.wanted o (yielded ops a.tmps)=So then Oper.wp P o a w K Q_ else E_:=by
 obtain⟨i,i1,i2,i3,i4⟩:=fX b
 have k:n+m<=maxLen:=by
  have:=Nat.le_mul_of_pos_right (n+m) hp.2;unfold maxLen;omega
 exact d6 hg s x t ho base e i z size bytes ht i1 i2 i3 i4 hz hp.1 v n xs es hown ad m c news ex hl hn h1 k hb hs h
theorem YI(b:(P.info? e).map (λi=>(i.8,i.3,i.4))=S (S z,size,bytes))(hown:Sx w base e size v n xs)(h:Q (∀v' w',Sx w' base e size v' (n+1) (xs++news)->(D w (Sc news.toArray m f)).grownBy w' v.ownBlock->(v'=X U 0 0↔v=X U 0 0/\1=0)->(v'.ownBlock=v.ownBlock\/v'.ownBlock=S (Z (D w (Sc news.toArray m f)).heap))->K (a.put o.dst v') w'))(hb:(n+1)*bytes<=140737488355328:=by first|omega|(dsimp only;omega))(hs:base<=Z w.heap:=by first|omega|(simp;omega)|simp)(hl:J news=1*size:=by rfl)(hg:o.guard=U:=by rfl)(ho:o.op=.call {callee:=.builtin .append,args:=#[s,x],argTypes:=#[t,t]}:=by exact rfl)(es:a.eval s=v:=by first|exact rfl|simp[Act.eval])(ex:a.eval x=X (S ⟨g,0,U⟩) 1 1:=by first|exact rfl|simp[Act.eval])(eg:g=Z w.heap:=by first|rfl|simp)(h1:(news.all λu=>u.oneCell')=So:=by rfl)(ht:P.underlying t=S (.slice e):=by kernel_rfl)(hz:Z z.cells=size:=by rfl)(hp:0<size/\0<bytes:=by decide):if Region.wanted o (yielded ops a.tmps)=So then Oper.wp P o a (D w (Sc news.toArray m f)) K Q_ else E_:=by
 subst eg;exact YD b (hown.alloc _) (XE (l9 _ _)) (List.all_eq_true.1 h1) h hg ho es ex hl hb (by simp;omega) ht hz hp
end
section
def VaF(xs:Wc)(i:I)(v:I):Wc:=xs.set i.toNat v
def Vc4(xs:Wc)(i:I):I:=xs.getD i.toNat 0
theorem Vbp{xs:Wc}{i v:I}:J (VaF xs i v)=J xs:=by simp[VaF]
theorem Vax{xs:Wc}{k:N}(h:k<J xs):Vc4 xs (k:I)=xs[k]:=by simp[Vc4,h]
def VaC(w:Ub)(b:N)(xs:Wc):Prop:=(∃C t,w.1[b]?=S (Sc C t (0,0)))/\∀i (h:i<J xs),E w (A b i)=S (H xs[i])
variable{w w':Ub}{b:N}{xs:Wc}
theorem VaC.lt(h:VaC w b xs):b<Z w.1:=by obtain⟨⟨C,t,e⟩,_⟩:=h;exact(aS.1 e).1
theorem VaC.frozen(h:VaC w b xs)(i:N):w.frozen? (A b i)=Sn:=by obtain⟨⟨C,t,e⟩,_⟩:=h;unfold World.frozen?;rw[e];simp
theorem VaC.keep(h:VaC w b xs)(k:w'.1[b]?=w.1[b]?):VaC w' b xs:=by obtain⟨⟨C,t,e⟩,a⟩:=h;exact⟨⟨C,t,G k e⟩,λi c=>G (Xc k) (a i c)⟩
theorem VaC.set(h:VaC w b xs){i:N}(g:i<J xs)(v:I):VaC (Se w ⟨b,i,U⟩ (Si S6 v)) b (xs.set i v):=by
 obtain⟨⟨C,t,e⟩,a⟩:=h;refine⟨⟨C.setIfInBounds i<|H v,t,?_⟩,λj f=>?_⟩
 .simp only[World.setCell,Array.getElem?_modify,e];simp
 have c:j<J xs:=by simpa using f
 by_cases d:j=i
 .subst d;rw[fQ _ _ _<|a j c];simp
 rw[cJ<|by intro q;injection q with _ q2;omega];rw[a j c,bI O]
theorem VaC.at(h:VaC w b xs){L B:N}(a:L<=b/\b<B):Xf w L B (S ⟨b,0,U⟩) xs:=λi c=>⟨b,0,R,a,by rw[aV];exact h.2 i c⟩
theorem VaC.of_row{t n:N}{f:Vu}(h:w.rowIs b t n f)(d:J xs<=n)(c:∀i (a:i<J xs),f i=Si S6 xs[i]):VaC w b xs:=by refine⟨?_,λi a=>by rw[h.cell O,c i a]⟩;obtain⟨C,e,_⟩:=h;exact⟨C,t,e⟩
theorem VaC.of_owned{a e:N}{v:Uj}{r:N}(h:Sx w a e 1 v r (xs.map<|Si S6))(q:v≠X U 0 0):∃g c,v=X (S ⟨g,0,U⟩) (J xs) c/\a<=g/\VaC w g xs:=by
 obtain⟨k,h|⟨g,n,d,rfl,o,i,s,_,p,l⟩⟩:=h;·exact Sz h.1 q
 simp only[iN,bK]at k p l;subst k;refine⟨g,n,R,o,⟨d,e,i⟩,λm j=>?_⟩;have f:(d.1.take (J xs))[m]?=S (H xs[m]):=by rw[l];simp[j]
 rw[fH j]at f;simp only[World.cell?,i];simpa using f
def VcZ(c a b:I):I:=if c=3 then wrap64 (a+b)else if c=4 then wrap64 (a-b)else if c=5 then wrap64 (a*b)else if c=6 then wrap64 (a.tdiv b)else if a<b then 1 else 0
def Vbq(xs:Wc)(i:I):I:=xs.getD i.toNat 0
def VaX(c d:N)(a:I):Bool:=Jd (c<=8)&&Jd (d<=32)&&Jd (0<=a)&&Jd (a<=60000)
def Va5(a:Wc):Wc:=(Rg 32).map λi=>a.getD i 0
def VaQ(a:Wc)(k:N):Wc:=(Rg k).map λi=>a.getD i 0
theorem Vbo{a:Wc}{k:N}:VaQ a (k+1)=VaQ a k++[a.getD k 0]:=by simp[VaQ,dN]
theorem VaP{a:Wc}{k:N}:J (VaQ a k)=k:=by simp[VaQ]
end
section
open Go.Deep
variable{w w' w1:Ub}{L B:N}
theorem IW.thawB(h:IW L B w w'){M N_:N}(t:iy M N_ w):iy M N_ w':=λb o c=>G (h.7 _) (t b o c)
variable{L' B':N}{a:Uy}
end
def VbP(k:I)(n:N):Wc:=(Rg n).map λi=>k+(i:N)
theorem VbH:J (VbP t n)=n:=by simp[VbP]
theorem VbX(h:m<J (VbP t n)):(VbP t n)[m]=t+(m:N):=by simp[VbP]
theorem VaZ(a:Uy)(n c:N)(k:I)(g:Wc)(L B:N)(w:Ub)(ha:Q (Xf w L B a g))(y:Q (n=J g))(x:Q (iy L B w))(K:n<=1048576)(M:0<=k)(C:k<=1000000000):
 Sk prog 12 #[X a n c,H k] w λf m=>f=Rt (H (k+n))/\IW L B w m/\Xf m L B a (VbP k n):=by
 go_in
 go_wp2
 go_loopw [1,5] (λu i wr=>∃j:N,j<=n/\i=H j/\u=H (k+j)/\Q (IW L B w wr)/\Q (∀q,q<j->∃b o,a=S (A b o)/\(L<=b/\b<B)/\E wr (A b (o+q))=S (H (k+(q:N))))) λ_ i _=>n-(JB i).toNat
 .exact⟨0,aN,R,sP,IW.refl _ _ _,λq hq=>Sz hq O⟩
 obtain⟨j,F,rfl,rfl,e,hq⟩:=hrel;by_cases P:j<n
 .have v:j<J g:=by have:=y.o;omega
  obtain⟨b,o,rfl,d,h⟩:=ha.o j v;obtain⟨u,e1⟩:=e.int h;have e2:=e.thawB x.o b (o+j) d;clear h;go_wp2;refine⟨⟨j+1,O,gM,gM,e.set d e1 _,λq T=>?_⟩,SA⟩;by_cases f:q=j
  .subst f;exact⟨b,o,R,d,fQ _ _ _ e1⟩
  obtain⟨z,V,p,W,s⟩:=hq.o q O;cases p;exact⟨b,o,R,d,by rw[cJ<|by intro r;injection r with _ D_;omega];exact s⟩
 have t:j=n:=O;subst t;go_wp2;go_ret;refine⟨R,e.o,λi l=>?_⟩;rw[VbX];rw[VbH]at l;exact hq.o i l
theorem Va7(c:N)(w:Ub)(ha:Q (Xf w m k p<|VbP t n))(s:n<=1048576)(h:0<=t)(l:t<=1000000000):
 Sk prog 19 #[X p n c,H t] w λe f=>e=Rt (H (t+n))/\f=w:=by
 go_in
 go_wp2
 go_loop [1,5] (λu i=>∃j:N,j<=n/\i=H j/\u=H (t+j)) λ_ i=>n-(JB i).toNat
 .exact⟨0,aN,R,sP⟩
 obtain⟨j,r,rfl,rfl⟩:=hrel;by_cases d:j<n
 .obtain⟨g,o,rfl,q,a⟩:=ha.o j (by rw[VbH];exact d);rw[VbX]at a;go_wp2
  go_round
  .exact⟨j+1,O,gM,gM⟩
  simp[JB];omega
 have b:j=n:=O;subst b;go_wp2;go_ret;exact⟨R,R⟩
theorem Vch(h:p=P)(a:n=m)(l:c=k):Rt (X p n c)=Rt (X P m k):=by rw[h,a,l]
section
variable{w w':Ub}{L B:N}
def VaJ(a:List ag):N:=(a.map λx=>J x.1).sum
def VaD(a:List ag):N:=(a.map λx=>1+J x.1).sum
theorem Vck{a:List ag}(p:ag):VaJ (a++[p])=VaJ a+J p.1:=by simp[VaJ]
theorem Vcp{a:List ag}(p:ag):VaD (a++[p])=VaD a+(1+J p.1):=by simp[VaD]
theorem Vcl(a:List ag)(k:N):VaJ (a.take k)<=VaJ a:=Tw _ _ _
theorem Vct(a:List ag)(k:N):VaD (a.take k)<=VaD a:=Tw _ _ _
theorem Vbm(a:List ag):VaD a=J a+VaJ a:=by
 induction a with
 |nil=>rfl
 |cons x a b=>
  simp only[VaD,VaJ,eH,kX,bA]at b |-;omega
theorem Vbw{a:List ag}{x:ag}(h:x∈a):J x.1<=VaJ a:=by
 induction a with
 |nil=>cases h
 |cons y b c=>
  have d:VaJ (y::b)=J y.1+VaJ b:=by simp[VaJ]
  obtain rfl|h:=cH.1 h;·omega
  have:=c h;omega
def Vdf(v:I)(n:N)(x:ag):Bool:=x.1.all (Yw v 13)&&Zu v 0 n x.2
def VbU(v:I)(a:List ag):Bool:=Jd (1<=v)&&Jd (v<=64)&&Jd (1<=J a)&&Jd (J a<=3000)&&Jd (VaD a<=20000)
def VaB(v:I)(a:List ag):Bool:=VbU v a&&a.all (Vdf v (J a))
theorem VbY{v:I}{a:List ag}(b:1<=v)(c:v<=64)(d:1<=J a)(e:J a<=3000)(f:VaD a<=20000):VbU v a=So:=by simp[VbU, *]
theorem VcX{v:I}{a:List ag}(h:¬(1<=v/\v<=64/\1<=J a/\J a<=3000/\VaD a<=20000)):VbU v a=Sn:=by rw[lY];intro e;simp only[VbU,bY,bD]at e;omega
theorem Vbe{v:I}{a:List ag}(h:¬(1<=v/\v<=64/\1<=J a/\J a<=3000/\VaD a<=20000)):VaB v a=Sn:=by unfold VaB;rw[VcX h];rfl
def Vzk(a:List ag):Prop:=∀x∈a,J x.1<=16777216
theorem VbF{a:List ag}(h:J a+VaJ a<=16777216):Vzk a:=λx b=>by have c:=Vbw b;omega
end
theorem Va6{a:List ag}(L B:N)(ha:Q (d7 w L B p a))(f:Q (n=J a))(P:n<=16777216)(K:VaD a<=16777216)(u:B<=Z w.1):
 Sk prog 76 #[Sa #[H t,X p n c]] w λe C=>e=Rt (Sb (Jd (1<=n)&&Jd (n<=3000)&&Jd (VaD a<=20000)))/\Sw (Z w.1) w C:=by
 by_cases m:1<=n/\n<=3000
 .obtain⟨d2,d3⟩:=m;have g:Q (VaD a=J a+VaJ a):=Vbm a
  go_in
  go_wp2
  go_loopw [3,18] (λz i wr=>∃k:N,k<=n/\i=H k/\z=H (n+VaJ (a.take k):N)/\n+VaJ (a.take k)<=20000/\Sw (Z w.1) w wr) λ_ i _=>n-(JB i).toNat
  .exact⟨0,aN,R,by simp[VaJ],by simp[VaJ];omega,Xb Rf _⟩
  obtain⟨k,T,rfl,rfl,y,d⟩:=hrel;by_cases V:k<n
  .have q:k<J a:=by have:=f.o;omega
   obtain⟨W,o,rfl,⟨_,F_⟩,l⟩:=ha.o k q;obtain⟨M_,N_,e1,⟨e2,e3,e4,e5⟩,_⟩:=l.keep (d.mono u) O;have b:Q (VaJ (a.take<|k+1)=VaJ (a.take k)+J a[k].1):=by show _=_;rw[X7 q,Vck]
   have h:=Vcl a<|k+1;have r:=Y h;have E_:VaJ (a.take k)+J a[k].1<=16777216:=by have:=b.o;have:=g.o;omega
   clear l h;generalize a[k]=F at*;generalize j:VaJ (a.take k)=M at*;have C_:=Y j;clear j;by_cases G_:20000<n+M+J F.1
   .go_wp2;go_ret;refine⟨Xl ?_,Xb d _⟩;have e:¬VaD a<=20000:=by have:=b.o;have:=r.o;have:=g.o;have:=f.o;omega
    rw[dJ e];simp
   go_wp2;exact⟨⟨k+1,O,gM,by rw[b.o];go_num,by rw[b.o];omega,Xb d _⟩,SA⟩
  go_wp2;go_ret;have e:=aW (l:=a) (i:=k) (by have:=f.o;omega);rw[e]at y;refine⟨Xl ?_,d⟩;rw[eB d2,eB d3,eB (show VaD a<=20000 by have:=g.o;have:=f.o;omega)];rfl
 have v:Q ((Jd (1<=n)&&Jd (n<=3000)&&Jd (VaD a<=20000))=Sn):=by
  show _=_;by_cases b:1<=n;·rw[dJ<|show ¬n<=3000 by omega];simp
  rw[dJ b];simp
 have x:n<1\/(1<=n/\3000<n):=O;clear m;obtain s|⟨s,d1⟩:=x
 all_goals
  go_in
  go_wp2;go_ret;exact⟨Xl v.symm,Xb Rf _⟩
theorem VaS{a:List ag}(ha:Q (d7 w m k p a))(i:Q (n=J a))(L:Q (J a+VaJ a<=16777216))(M:k<=Z w.1)(hO:Q (Uw w))(hT:Q (T7 w)):
 Sk prog 33 #[Sa #[H t,X p n c]] w λe w'=>e=Rt (Sb (VaB t a))/\Sw (Z w.1) w w':=by
 have U_:n<=16777216:=by have:=i.o;have:=L.o;omega
 have R_:Q (VaD a<=16777216):=by show _<=_;rw[Vbm];exact L.o
 have al:=Y<|VbF L.o;by_cases W_:1<=t/\t<=64;rotate_left
 .have f:Q (VaB t a=Sn):=Vbe O;have af:t<1\/(1<=t/\64<t):=O;clear W_;obtain ab|⟨ab,d1⟩:=af
  all_goals
   go_in
   go_wp2;go_ret;exact⟨Xl f.symm,Xb Rf _⟩
 obtain⟨v1,v2⟩:=W_;cases hq:(Jd (1<=n)&&Jd (n<=3000)&&Jd (VaD a<=20000))
 .have T:=Y hq
  have f:Q (VaB t a=Sn):=Vbe (λ⟨_,_,d1,d2,d3⟩=>by have e:=i.o;rw[eB (show 1<=n by omega),eB (show n<=3000 by omega),eB d3]at hq;cases hq)
  clear hq
  go_in
  go_wp2_with fail
  refine(Va6 m k ?q1 i U_ R_.o ?q2).mono ?_
  case q1=>exact ha.keep (Xb Rf _ |>.mono M)
  case q2=>simp;omega
  rintro e x⟨rfl,q⟩;rw[Xw T];go_wp2;go_ret;exact⟨Xl f.symm,Xg (Xb Rf _) q⟩
 have T:=Y hq
 have f:Q (VaB t a=a.all (Vdf t n)):=by show _=_;have e:=i.o;simp only[bY,bD]at hq;unfold VaB;rw[VbY v1 v2 O O hq.2,<-e];rfl
 have d3:n<=3000:=by simp only[bY,bD]at hq;exact hq.1.2
 clear hq
 go_in
 go_wp2_with fail
 refine(Va6 m k ?q1 i U_ R_.o ?q2).mono ?_
 case q1=>exact ha.keep (Xb Rf _ |>.mono M)
 case q2=>simp;omega
 rintro e x⟨rfl,q⟩;rw[Xw T];obtain⟨V,z⟩:=NC q;have Y_:E x (A (Z w.1) 0)=S (H t):=by rw[V _ _ sP];simp
 have k1:E x (A (Z w.1) 1)=S (X p n c):=by rw[V _ _ sP];simp
 have r:=Xg (Xb (dC (Z w.1) w) _) q;have ar:=q.4;simp at ar;have C:=Y r;have HA:=Y<|ha.keep (r.mono M);have K_:=Y<|hO.keep r;have L_:=Y<|hT.keep r;clear V z q r ha;go_wp2
 go_loopw [23] (λl wr=>∃d:N,d<=n/\l=H d/\Sw (Z x.1) x wr/\Q ((a.take d).all (Vdf t n)=So)) λl _=>n-(JB l).toNat
 .exact⟨0,aN,R,Rf,R⟩
 obtain⟨d,hk,rfl,b,O_⟩:=hrel;have a9:=b.4;have a6:Z w.1<Z wr.1:=O;have Z_:=G (XU b O) Y_;have a0:=G (XU b O) k1;by_cases a5:d<n;rotate_left
 .have ac:=Y (YE (p:=Vdf t n) (xs:=a) (k:=d) (by have:=i.o;omega) O_.o);go_wp2;go_ret;exact⟨Xl (by rw[f.o,ac.o]),Xg C.o b⟩
 have K:d<J a:=by have:=i.o;omega
 obtain⟨a1,o_,rfl,⟨_,a2⟩,hc⟩:=HA.o d K;obtain⟨ia,ic,f1,⟨f2,f3,M_,N_⟩,T_⟩:=hc;have e1:=G (XU b O) f1;have e2:=G (XU b O) f2;have e3:=G (XU b O) f3;have e4:=G (XU b O) M_;have e5:=G (XU b O) N_;have a4:=al.o _<|aH K;have V_:=Y λh=>JN (p:=Vdf t n) (xs:=a) (k:=d) K h;have ap:=Y λh=>XY (p:=Vdf t n) K O_.o h;have HI:=Y T_;clear T_ f1 f2 f3 M_ N_ Y_ k1;generalize a[d]=o at*;have F:Q (Vdf t n o=(o.1.all (Yw t 13)&&Zu t 0 n ⟨o.2.1,o.2.a,o.2.3,o.2.4⟩)):=R;cases hr:Zu t 0 n ⟨o.2.1,o.2.a,o.2.3,o.2.4⟩
 .have u:=Y hr;clear hr;go_wp2_with fail
  refine(Kn ?q1).mono ?_
  case q1=>exact T7.keep L_.o<|Xb b _
  rintro e y⟨rfl,g⟩;rw[Xw u];go_wp2;go_ret;exact⟨Xl (by rw[f.o,Xw V_<|by rw[F.o,u.o];simp]),Xg C.o<|Xg (Xb b _) g⟩
 have u:=Y hr;clear hr;go_wp2_with fail
 refine(Kn ?q1).mono ?_
 case q1=>exact T7.keep L_.o<|Xb b _
 rintro e y⟨rfl,g⟩;rw[Xw u];have bb:=Xg (Xb b _) g;obtain⟨z,aj⟩:=NC g;have m1:E y (A (Z wr.1) 0)=S (X ia (J o.1) ic):=by rw[z _ _ sP];simp
 have az:=g.4;simp at az;have ba:Z wr.1<Z y.1:=O;have x0:=G (g.cell (p:=A (Z w.1) 0) (by show Z w.1<_;simp;omega)) (G ((Xb (dC (Z wr.1) wr) _).cell (p:=A (Z w.1) 0) (by show Z w.1<_;omega)) Z_);clear z aj g e1 e2 e3 e4 e5 Z_ a0;have aa:=Y bb;go_wp2
 go_loopw [39] (λl wi=>∃j:N,j<=J o.1/\l=H j/\Sw (Z y.1) y wi/\Q ((o.1.take j).all (Yw t 13)=So)) λl _=>J o.1-(JB l).toNat
 .exact⟨0,aN,R,Rf,R⟩
 obtain⟨j,hj,rfl,B,Q_⟩:=hrel;have v:=Xg aa.o B;have r0:=G (XU B O) x0;have a8:=B.4;have a7:Z w.1<Z wr.1:=O;clear m1;by_cases W:j<J o.1
 .obtain⟨b',o',rfl,⟨_,a3⟩,S_⟩:=HI.o j W;obtain⟨g0,g1,g2,g3,g4⟩:=S_.keep v O;have ao:=Y λh=>JN (p:=Yw t 13) (xs:=o.1) (k:=j) W h;have aq:=Y λh=>XY (p:=Yw t 13) W Q_.o h;clear S_;generalize o.1[j]=P at*;cases hr:Yw t 13 ⟨P.1,P.2,P.a,P.b,P.5⟩
  .have s:=Y hr;clear hr;go_wp2_with fail
   refine(AB _ _ _ _ _ _ _ vY ?q1).mono ?_
   case q1=>exact Uw.keep K_.o<|Xb v _
   rintro e w3⟨rfl,G_⟩;rw[Xw s];go_wp2;go_ret;exact⟨Xl (by rw[f.o,Xw V_<|by rw[F.o,Xw ao s.o];rfl]),Xg C.o<|Xg (Xb v _) G_⟩
  have s:=Y hr;clear hr;go_wp2_with fail
  refine(AB _ _ _ _ _ _ _ vY ?q1).mono ?_
  case q1=>exact Uw.keep K_.o<|Xb v _
  rintro e w3⟨rfl,G_⟩;rw[Xw s];go_wp2;exact⟨⟨j+1,O,gM,Xg (Xb B _) G_,Xw aq s.o⟩,SA⟩
 have ad:=Y<|YE (p:=Yw t 13) (xs:=o.1) (k:=j) O Q_.o;go_wp2;exact⟨⟨d+1,O,gM,v,Xw ap<|by rw[F.o,u.o,ad.o];rfl⟩,SA⟩
theorem zD{tg}(K:Q (Va w n 0 ⟨m,t,tg,T⟩))(h:1<=m)(i:m<=3)(o:Q (Yb w)):
 Sk prog 219 #[Hn n] w λk b=>∃v,k=Rt v/\Sw (Z w.1) w b/\Sx b (Z w.1) 257 1 v (J (Yd [(m:I) != 1,(m:I) != 3,(m:I)==2] [(A n 1),(A n 2),(A n 3)])) ((Yd [(m:I) != 1,(m:I) != 3,(m:I)==2] [(A n 1),(A n 2),(A n 3)]).map Tx):=by
 obtain⟨p,q1,q2,q3⟩:=K.o;simp only at p q1 q2 q3;obtain⟨c0,c1,c2,c3⟩:=o.2 m h i;have V:=o.1;generalize ((m:I) != 1)=e at*;generalize ((m:I) != 3)=g at*;generalize ((m:I)==2)=f at*
 go_in
 go_wp2_with fail
 have L:(λd:Ub=>Z d.1=Z w.1+1/\E d (A (Z w.1) 1)=S (Sb e)/\E d (A (Z w.1) 2)=S (Sb g)/\E d (A (Z w.1) 3)=S (Sb f)/\Q (Sw (Z w.1) w d)) (D w<|Sc #[Sg (K8<|gx m),Sb e,Sb g,Sb f] 243):=⟨sP,sP,sP,sP,Y<|Xb Rf _⟩;generalize D w _=a at*;obtain⟨e1,y,z,M,r⟩:=L;clear p q1 q2 q3 c0 c1 c2 c3;have H_:=Y e1;have j:Z w.1<Z a.1:=O;clear e1;have s:=Y λF x W h i B C=>@yQ [e,g,f] [(A n 1),(A n 2),(A n 3)] a W F x 3 3 R sP h i B C
 go_region_held3 (λb=>E b (A (Z w.1) 1)=S (Sb e)/\E b (A (Z w.1) 2)=S (Sb g)/\E b (A (Z w.1) 3)=S (Sb f)) (go_keep)
  (first|(go_at_call 180;refine(s _ _ _ (Xb (Xb Rf _) _).drew (by show _<=Z (World.alloc _ _).1;simp) (by first|exact J7 a _ _ _ _|exact J6 a _ _ _ _) (by first|exact J6 a _ _ _ _|exact J7 a _ _ _ _)).mono ?_;rintro k P⟨v5,rfl,c,l⟩;have q:=Y<|r.trans (c.mono O);have u:Q (Sx P (Z w.1) 257 1 v5 _ _):=Y<|Zk l O;have f1:=oB c y j;have f2:=oB c z j;have f3:=oB c M j;clear c l))
 all_goals
  go_wp2;go_ret;exact⟨_,R,q,u⟩
def NF(bs:Wn)(a:N):I:=if Ax bs a=So then (Bo bs:I)else 0
theorem zQA0{p: Prop}(h: p := by
  go_in
  go_wp2
  all_goals
   refine YL (v:=St #[H 0,Sb Sn]) ⟨by rw[b.1,b.2],Below.refl _ _⟩): p := h
theorem zQA1{p: Prop}(h: p := by go_wp2;refine YL (v:=St #[H 0,Sb Sn]) ⟨by rw[d.1,d.2],i⟩): p := h
theorem r6(c a:N){bs}(L B)(ha:Q (Yx w L B p bs))(g:Q (n=J bs))(hm:a<=10)(hn:n<=1000000)(W_:B<=Z w.1):
 Sk prog 196 #[X p n c,H a] w λj W=>j=Rt (St #[H<|NF bs a,Sb (Ax bs a)])/\Sw (Z w.1) w W:=by
 by_cases M:n=0
 .have b:Q (Ax bs a=Sn/\NF bs a=0):=Y (by
   have h:Ax bs a=Sn:=by unfold Ax;simp[<-g.o,M]
   exact⟨h,by unfold NF;rw[h];rfl⟩)
  subst M
  go_in
  go_wp2;refine YL (v:=St #[H 0,Sb Sn]) ⟨by rw[b.1,b.2],Rf⟩
 by_cases C:a<n
 .have b:Q (Ax bs a=Sn/\NF bs a=0):=Y (by
   have h:Ax bs a=Sn:=by unfold Ax;rw[<-g.o];simp[C]
   exact⟨h,by unfold NF;rw[h];rfl⟩)
  exact zQA0
 have P:0<J bs:=oN g.o;obtain⟨z,P_,rfl,X_,F⟩:=ha 0 P;have N_:z<Z w.1:=O;have ab:((n:I)==0)=Sn:=by rw[iS];omega
 have ac:¬((a:I)<n):=O;have r:Q ((bs.head? == S 48)=Jd ((bs[0].toNat:I)=48)):=Y (by
  cases bs with
  |nil=>simp at P
  |cons c af=>
   by_cases t:c=48;·subst t;rfl
   have:¬((c.toNat:I)=48):=λh=>t<|UInt8.toNat_inj.1 (by show c.toNat=48;omega)
   simp[t,this])
 have s:Q (((bs[0].toNat:I)=48/\1<n->Ax bs a=Sn)/\(¬((bs[0].toNat:I)=48/\1<n)->Ax bs a=bs.all T3)):=Y (by
  have ad:=g.o;constructor
  .rintro⟨q1,q2⟩;unfold Ax;rw[r.o];simp[q1,show 1<J bs by omega]
  intro e;unfold Ax;rw[r.o];have e1:(J bs==0)=Sn:=by rw[iS];omega
  have e2:Jd (a<J bs)=Sn:=by rw[fC];omega
  have e3:(Jd ((bs[0].toNat:I)=48)&&Jd (1<J bs))=Sn:=by
   rw[jD];by_cases q:(bs[0].toNat:I)=48;·exact aZ<|by rw[fC];intro h;exact e ⟨q,O⟩
   exact bC<|by rw[fC];exact q
  rw[e1,e2,e3];rfl)
 have c0:Cl w z P_ (Si .u8 (bs[0].toNat:I)):=F;generalize (bs[0].toNat:I)=K at*;clear F r;by_cases e:K=48/\1<n
 .have b:Q (Ax bs a=Sn/\NF bs a=0):=Y (by
   have h:=s.1 e;exact⟨h,by unfold NF;rw[h];rfl⟩)
  let⟨T,S_⟩:=e;have z3:(1:I)<n:=O;exact zQA0
 have x:=Y<|s.2 e;have O_:((K==48)=Sn)\/((K==48)=So/\¬((1:I)<n)):=by
  by_cases q:K=48;·exact aZ ⟨by rw[iA];exact q,λh=>e ⟨q,O⟩⟩
  exact bC<|by rw[iS];exact q
 clear e s;obtain T|⟨T,S_⟩:=O_
 focus
  go_in
 rotate_left
 focus
  go_in
 all_goals (
  go_wp2
  go_loopw [6,31] (λR_ u wr=>∃k:N,k<=n/\u=H k/\R_=H (Bo (bs.take k):N)/\Q (Sw (Z w.1) w wr)/\Q ((bs.take k).all T3=So)) λ_ u _=>n-(JB u).toNat
  .exact⟨0,aN,R,R,Y<|Rf,Y R⟩
  case round=>
   obtain⟨k,Y_,rfl,rfl,i,m⟩:=hrel;by_cases aa:k<n
   .have l:k<J bs:=oN g.o
    let⟨T_,o',M_,_,V⟩:=ha k l;cases M_;have U_:=oB i V N_;have o:Q (T3 bs[k]=So↔¬(bs[k].toNat:I)<48/\¬(57:I)<(bs[k].toNat:I)):=Y (by simp only[T3,bY,bD];omega);have K_:Q ((bs.take<|k+1).all T3=((bs.take k).all T3&&T3 bs[k])):=Y (by rw[bN l,sS];simp);have I_:Q ((Bo (bs.take<|k+1):I)=Bo (bs.take k)*10+((bs[k].toNat-48:N):I)):=Y (by rw[bN l,yK];omega);have y:Q (T3 bs[k]=Sn->Ax bs a=Sn/\NF bs a=0):=Y (λh=>by
     have f:Ax bs a=Sn:=G x (by rw[lZ];exact⟨bs[k],aH l,by rw[h];simp⟩)
     exact⟨f,by unfold NF;rw[f];rfl⟩)
    have v:Q ((Bo (bs.take k):I)<10000000000):=Y (by have C:=zn m;have f:10^J (bs.take k)<=10^10:=IJ vY (by simp only[dH];omega);have V_:(10:N)^10=10000000000:=vY;omega)
    clear V;by_cases c1:(bs[k].toNat:I)<48
    .have d:=Y (y.o (by cases h:T3 bs[k]with|false=>rfl|true=>exact Sz c1 (o.1 h).1));exact zQA1
    by_cases c2:(57:I)<(bs[k].toNat:I)
    .have d:=Y (y.o (by cases h:T3 bs[k]with|false=>rfl|true=>exact Sz c2 (o.1 h).2));exact zQA1
    have H_:Q ((bs.take<|k+1).all T3=So):=Y (by rw[K_.o,m.o,o.2 ⟨c1,c2⟩];rfl);have e1:IntKind.u8.wrap ((bs[k].toNat:I)-48)=(bs[k].toNat:I)-48:=by simp[IntKind.wrap,IntKind.signed,IntKind.bits];omega
    have e2:S6.wrap ((bs[k].toNat:I)-48)=(bs[k].toNat:I)-48:=by rw[dF];omega
    have e3:S6.wrap ((Bo (bs.take k):I)*10)=(Bo (bs.take k):I)*10:=by rw[dF];have:=v.o;omega
    have J_:Q (S6.wrap ((Bo (bs.take k):I)*10+((bs[k].toNat:I)-48))=(Bo (bs.take<|k+1):I)):=Y (by rw[I_.o,dF];have:=v.o;omega);have hs:=J_.o;go_wp2;exact⟨⟨k+1,O,gM,R,i,H_⟩,SA⟩
   have d:Q (Ax bs a=So/\NF bs a=Bo (bs.take k)):=Y (by
    have j:bs.take k=bs:=aW<|oN g.o;have f:Ax bs a=So:=by rw[x.o];have:=m.o;rwa[j]at this
    exact⟨f,by unfold NF;rw[f,j];rfl⟩)
   go_wp2;refine YL (v:=St #[H (Bo (bs.take k):N),Sb So]) ⟨by rw[d.1,d.2],i⟩)
theorem pJ(a n c bs L B w)(ha:Q (Yx w L B a bs))(h:Q (n=J bs))(g:n<=1000000)(d:B<=Z w.1):
 Sk prog 162 #[X a n c] w λe i=>e=Rt (St #[H<|NF bs 4,Sb (Ax bs 4)])/\Sw (Z w.1) w i:=by
 have b:=Y<|r6 c 4 L B ha h vY g d;generalize NF bs 4=V at*;generalize Ax bs 4=k at*
 go_in
 go_wp2_with (go_at_call 196;refine YU b λj f=>?_)
 refine YL (v:=St #[H V,Sb k]) ⟨R,f⟩
shelf_lay Lays.nb141 Nm 141 at Tryz as laysCP
theorem oG(bs:Wn):Lib.bytesOf (bs.map λx=>(x.toNat:I))=bs:=by
 unfold Lib.bytesOf;rw[jO];have:((λn:I=>UInt8.ofNat n.toNat) ∘ λx:UInt8=>(x.toNat:I))=id:=by funext x;simp
 rw[this,List.map_id]
theorem LX(f:Wn):∀a:N,a<=f.foldl (λa c=>a*10+(c.toNat-48)) a:=by
 induction f with
 |nil=>intro a;exact aA
 |cons c r b=>intro a;rw[iM];exact aJ O<|b _
theorem LS(r:Wn):NM (45::r)=(Ax r 10&&Jd (Bo r<=1000000000)&&Jd (Bo r≠0)):=by
 cases r with
 |nil=>rfl
 |cons c s=>
  rw[sI];cases hd:Ax (c::s) 10 with
  |false=>
   by_cases a:c=45;·subst a;simp
   rw[oQ (c::s) (λg r e=>a<|by cases e;rfl),hd];simp
  |true=>
   have hq:=sh hd;have d:T3 c=So:=by have:=hq.2.1;rw[vi,bY]at this;exact this.1
   simp only[T3,bY,bD]at d;have a:c≠45:=λe=>by subst e;simp at d
   rw[oQ (c::s) (λg r e=>a<|by cases e;rfl),hd];have h:(c != 45)=So:=by rw[jJ];exact a
   rw[h,vR,rS];by_cases b:c=48
   .have k:s=[]:=by
     unfold Ax at hd;simp only[bY,lV,IL,jD]at hd;have:=hd.1.2;subst b;obtain q|q:=this;·simp at q
     simp at q;exact q
    subst k;subst b;rfl
   have i:(c != 48)=So:=by rw[jJ];exact b
   have j:Bo (c::s)≠0:=by have l:=LX s<|0*10+(c.toNat-48);have m:c.toNat≠48:=λe=>b<|UInt8.toNat_inj.1 e;have n:Bo (c::s)=s.foldl (λf c=>f*10+(c.toNat-48)) (0*10+(c.toNat-48)):=R;omega
   rw[i,eB j,rS,vR]
def fp(f:Wn):I:=if NM f=So then i9 f else 0
theorem yE(b o n c b2)(bs:Wn)(w:Ub)(m:n=J bs)(k:n<=c)(ha:∀i (h:i<J bs),E w (A b<|o+i)=S (Si .u8 (bs[i].toNat:I)))(g:E w (A b2 0)=S (Si .u8 45)):
 Sk prog 240 #[Hm b o n c,Hl b2 1 1] w λe d=>e=Rt (St #[if bs.head?=S 45 then X (if c=1 then S (A b o)else S (A b<|o+1)) (n-1) (c-1)else Hm b o n c,Sb (Jd (bs.head?=S 45))])/\d=w:=by
 have h:=Any.bytes_CutPrefix laysCP b o n c b2 0 1 1 (bs.map λx=>(x.toNat:I)) [45] w (by simp[m]) R k (λi j=>by
  have a:i<J bs:=O;rw[ha i a];simp[List.getD,a]) (λi j=>by
  have:i=0:=O;subst this;exact g)
 have l:Lib.hasPrefix (Lib.bytesOf<|bs.map λx=>(x.toNat:I)) (Lib.bytesOf [45])=Jd (bs.head?=S 45):=by
  rw[oG];cases bs with
  |nil=>rfl
  |cons x r=>
   show(List.isPrefixOf [45] (x::r))=_;by_cases e:x=45;·subst e;simp
   have f:((45:UInt8)==x)=Sn:=by rw[iS];exact λq=>e q.symm
   have e2:Jd ((x::r).head?=S 45)=Sn:=by rw[fC];intro q;exact e<|gQ q
   rw[e2];show((45:UInt8)==x&&List.isPrefixOf [] r)=Sn;rw[f];rfl
 refine YU h ?_;rintro d rfl;refine⟨?_,R⟩;unfold Lib.bytesTrimPrefix;rw[l];by_cases q:bs.head?=S 45;·rw[aU (by simpa using q),aU q];rfl
 rw[aM (by simpa using q),aM q]
theorem zQB0{p: Prop}(h: p := by clear hd;go_wp2;refine YL (v:=St #[H 0,Sb Sn]) ⟨by rw[a.1,a.2],b⟩): p := h
theorem II{bs}(L)(ha:Q (Yx w L B (S ⟨n,m,U⟩) bs))(t:Q (k=J bs))(F:k<=c)(W:k<=1000000)(M:B<=Z w.1):
 Sk prog 220 #[Hm n m k c] w λe o=>e=Rt (St #[H<|fp bs,Sb (NM bs)])/\Sw (Z w.1) w o:=by
 have s:Q (∀x i (h:i<J bs),E (D w x) (A n (m+i))=S (Si .u8 (bs[i].toNat:I))):=Y (λx i h=>by obtain⟨H_,Q_,C,_,K_⟩:=(ha.keep<|(Xb (dC (Z w.1) w) x).mono M) i h;cases C;exact K_)
 by_cases g:bs.head?=S 45
 .obtain⟨r,rfl⟩:∃r,bs=45::r:=by
   cases bs with
   |nil=>cases g
   |cons x r=>simp at g;exact⟨r,by rw[g]⟩
  have v:=Y<|yE n m k c (Z w.1) (45::r) (D w<|Sc #[Si .u8 45] 5) t F (s _) sP;have T:k-1=J r:=by have:=t.o;simp at this;omega
  have f:Sw (Z w.1) w (D w<|Sc #[Si .u8 45] 5):=Xb Rf _;have P:Q (Sk prog 196 #[X (if c=1 then S (A n m)else S (A n (m+1))) (k-1) (c-1),H 10] (D w<|Sc #[Si .u8 45] 5) λe o=>e=Rt (St #[H (NF r 10),Sb (Ax r 10)])/\Sw (Z (D w<|Sc #[Si .u8 45] 5).1) (D w<|Sc #[Si .u8 45] 5) o):=Y (by refine r6 (c-1) 10 L B (Y λi T_=>?_) (Y T) vY O SB;obtain⟨H_,Q_,C,I_,M_⟩:=(ha.keep<|f.mono M) (i+1) SB;cases C;have N_:¬(c=1):=O;rw[aM N_];exact⟨n,m+1,R,I_,by rw[zZ,yy 1 i];exact M_⟩)
  have d:=Y<|LS r;have y:Q (i9 (45::r)=-(Bo r:I)):=Y R;have z:Q (Ax r 10=So->NF r 10=(Bo r:I)):=Y (λh=>by unfold NF;rw[h];rfl);have u:=Y f;clear f T s;generalize (if c=1 then S ((A n m):Addr)else S (A n (m+1)))=S_ at*
  go_in
  go_wp2_with (go_at_call 240;refine YU v λp l=>?_;rw[l];clear l p)
  refine YU P λp j=>?_;have b:=Y<|u.trans (j.mono sP);clear j;cases hd:Ax r 10 with
  |false=>
   have a:Q (NM (45::r)=Sn/\fp (45::r)=0):=Y (by
    have h:NM (45::r)=Sn:=by rw[d.o,hd];rfl
    exact⟨h,by unfold fp;rw[h];rfl⟩)
   exact zQB0
  |true=>
   rw[z.o hd];by_cases J_:(1000000000:I)<(Bo r:I)
   .have a:Q (NM (45::r)=Sn/\fp (45::r)=0):=Y (by
     have h:NM (45::r)=Sn:=by rw[d.o,hd,dJ O];rfl
     exact⟨h,by unfold fp;rw[h];rfl⟩)
    exact zQB0
   have a:Q (NM (45::r)=((Bo r:I) != 0)/\fp (45::r)=-(Bo r:I)):=Y (by
    have h:NM (45::r)=((Bo r:I) != 0):=by
     rw[d.o,hd,eB O,rS,rS];by_cases q:Bo r=0;·rw[q];rfl
     rw[eB q];symm;rw[jJ];omega
    refine⟨h,?_⟩;unfold fp;rw[h,y.o];by_cases q:(Bo r:I)=0;·rw[q];rfl
    rw[aU<|by rw[jJ];exact q])
   have P_:S6.wrap (-(Bo r:I))=-(Bo r:I):=by rw[dF];omega
   have R_:=Y P_;clear hd;generalize (Bo r:I)=K at*;go_wp2;refine YL (v:=St #[H (-K),Sb (K != 0)]) ⟨by rw[a.1,a.2],b⟩
 have v:=Y<|yE n m k c (Z w.1) bs (D w<|Sc #[Si .u8 45] 5) t F (s _) sP
 have f:Sw (Z w.1) w (D w<|Sc #[Si .u8 45] 5):=Xb Rf _;have P:Q (Sk prog 196 #[Hm n m k c,H 10] (D w<|Sc #[Si .u8 45] 5) λe o=>e=Rt (St #[H (NF bs 10),Sb (Ax bs 10)])/\Sw (Z (D w<|Sc #[Si .u8 45] 5).1) (D w<|Sc #[Si .u8 45] 5) o):=Y
  (r6 c 10 L B (Y<|ha.keep (f.mono M)) t vY W SB)
 have d:=Y (oQ bs λx r e=>g<|by rw[e];rfl);have y:Q (i9 bs=(Bo bs:I)):=Y (by unfold i9;rw[aM g]);have z:Q (Ax bs 10=So->NF bs 10=(Bo bs:I)):=Y (λh=>by unfold NF;rw[h];rfl);have u:=Y f;have V:=Y g;clear f s g
 go_in
 go_wp2_with (go_at_call 240;refine YU v λp l=>?_;rw[l,aM V.o,dJ V.o];clear l p)
 refine YU P λp j=>?_;have b:=Y<|u.trans (j.mono sP);clear j;cases hd:Ax bs 10 with
 |false=>
  have a:Q (NM bs=Sn/\fp bs=0):=Y (by
   have h:NM bs=Sn:=by rw[d.o,hd];rfl
   exact⟨h,by unfold fp;rw[h];rfl⟩)
  exact zQB0
 |true=>
  rw[z.o hd];by_cases J_:(1000000000:I)<(Bo bs:I)
  .have a:Q (NM bs=Sn/\fp bs=0):=Y (by
    have h:NM bs=Sn:=by rw[d.o,hd,dJ O];rfl
    exact⟨h,by unfold fp;rw[h];rfl⟩)
   exact zQB0
  have a:Q (NM bs=So/\fp bs=(Bo bs:I)):=Y (by
   have h:NM bs=So:=by rw[d.o,hd,eB O];rfl
   exact⟨h,by unfold fp;rw[h,y.o];rfl⟩)
  clear hd;generalize (Bo bs:I)=K at*;go_wp2;refine YL (v:=St #[H K,Sb So]) ⟨by rw[a.1,a.2],b⟩
theorem zH(s)(l:Wn):(Lib.index l [s]=-1/\s∉l)\/∃i:N,Lib.index l [s]=i/\i<J l/\l=l.take i++s::l.drop (i+1)/\s∉l.take i:=by
 induction l with
 |nil=>exact bC ⟨R,sP⟩
 |cons b l e=>
  by_cases a:b=s
  .subst a;exact aZ ⟨0,by simp[Lib.index],sP,sP,sP⟩
  have d:(List.isPrefixOf [s] (b::l))=Sn:=by show((s==b)&&List.isPrefixOf [] l)=Sn;rw[show(s==b)=Sn from by rw[iS];exact λq=>a q.symm];rfl
  obtain⟨h1,h2⟩|⟨i,h1,h2,h3,h4⟩:=e
  .exact bC ⟨by rw[Lib.index,d,h1];rfl,by
    intro c;obtain q|q:=cH.1 c;·exact a q.symm
    exact h2 q⟩
  refine aZ ⟨i+1,?_,SB,?_,?_⟩
  .rw[Lib.index,d,h1];have:((i:I) == -1)=Sn:=by rw[iS];omega
   simp[this]
  .simp only[uw,ya,cW];rw[<-h3]
  rw[uw];intro c;obtain q|q:=cH.1 c;·exact a q.symm
  exact h4 q
theorem zu(s:UInt8):∀(l a:Wn),s∉l->am s a l=[a++l]
 |[],a,_=>by simp[am]
 |c::r,a,h=>by rw[am,aM (λe=>h<|by rw[e];exact cI ..),zu s r _ λq=>h<|cN _ q];simp
theorem zQ(s:UInt8):∀(d a b:Wn),s∉d->am s a (d++s::b)=(a++d)::am s [] b
 |[],a,b,_=>by simp[am]
 |c::r,a,b,h=>by rw[cW,am,aM (λe=>h<|by rw[e];exact cI ..),zQ s r _ _ λq=>h<|cN _ q];simp
def mf(w:Ub)(b:N)(v:Uj)(f:Wn):Prop:=∃o c,v=X (S ⟨b,o,U⟩) (J f) c/\(J f<=c/\c<=9223372036854775807)/\∀j (h:j<J f),E w ⟨b,o+j,U⟩=S (Si .u8 (f[j].toNat:I))
theorem Jg(w:Ub)(b s):∀(k o a:N)(l:Wn),Lib.count l [s]=k->(J l<=a/\a<=9223372036854775807)->(∀j (h:j<J l),E w (A b<|o+j)=S (Si .u8 (l[j].toNat:I))) ->
 J (Lib.splitV [s] 0 k (A b o) a l)=J (C3 l s)/\∀i (h:i<J (C3 l s)) (f:i<J (Lib.splitV [s] 0 k (A b o) a l)),mf w b (Lib.splitV [s] 0 k (A b o) a l)[i] (C3 l s)[i]:=by
 intro k
 induction k with
 |zero=>
  intro o a l g n c;have x:s∉l:=by
   obtain⟨_,h⟩|⟨i,h1,_⟩:=zH s l;·exact h
   rw[Lib.count_hit sP h1]at g;omega
  have e:C3 l s=[l]:=by unfold C3;rw[zu s l [] x];rfl
  rw[e];refine⟨R,λi h f=>?_⟩;have:i=0:=by simpa using h
  subst this;exact⟨o,a,R,n,c⟩
 |succ k z=>
  intro o a l g n c;obtain⟨h1,_⟩|⟨p,h1,h2,h3,h4⟩:=zH s l;·rw[Lib.count_miss h1]at g;omega
  have u:Lib.count (l.drop<|p+1) [s]=k:=by have:=Lib.count_hit (s:=l) (sub:=[s]) sP h1;simp only[nR]at this;omega
  have e:C3 l s=l.take p::C3 (l.drop<|p+1) s:=by
   unfold C3
   conv=>lhs;rw[h3,zQ s _ _ _ h4]
   rfl
  have m:Lib.splitV [s] 0 (k+1) (A b o) a l=Hm b o p p::Lib.splitV [s] 0 k (Lib.tailAddr (A b o) a (p+1)) (a-(p+1)) (l.drop<|p+1):=by rw[Lib.splitV,h1,aM sP];simp
  have r:J (l.take p)=p:=by rw[dH];omega
  let⟨d,y,v⟩:∃d,Lib.tailAddr (A b o) a (p+1)=(A b d)/\∀j (h:j<J (l.drop<|p+1)),w.cell? (A b<|d+j)=S (Si .u8 ((l.drop<|p+1)[j].toNat:I)):=by
   by_cases q:a=p+1
   .refine⟨o,by unfold Lib.tailAddr;rw[aU q],λj h=>?_⟩;rw[mF]at h;omega
   refine⟨o+(p+1),by unfold Lib.tailAddr;rw[aM q,mK],λj h=>?_⟩;rw[mF]at h;rw[zZ,c (p+1+j) O,List.getElem_drop]
  rw[y]at m;let⟨q1,q2⟩:=z d (a-(p+1)) (l.drop<|p+1) u ⟨by rw[mF];omega,O⟩ v;rw[m,e];refine⟨by rw[bA,bA,q1],λi h f=>?_⟩;cases i with
  |zero=>
   refine⟨o,p,by simp[r],⟨by simp[r],O⟩,λj t=>?_⟩;rw[eM]at t;rw[c j O];simp
  |succ i=>
   simp only[fO];exact q2 i SI (by simpa using f)
