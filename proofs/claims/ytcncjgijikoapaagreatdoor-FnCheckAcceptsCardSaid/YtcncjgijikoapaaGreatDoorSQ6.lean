import Derived.Test.YtcncjgijikoapaaGreatDoorSA0
import Derived.Maps.Views
import Derived.Maps.OwnOps
import Derived.Maps.RangeWalk
import Derived.Lib.SlKeysI
import Derived.Deep.LoopGhost
import Derived.Laws.IdiomRangeMap
import Derived.Shelf.Lay
import Derived.Test.YtcncjgijikoapaaGreatDoorNSv
namespace Go.Proofs.YtcncjgijikoapaaGreatDoor
set_option maxHeartbeats 4000000
set_option maxRecDepth 100000
open _root_ renaming List.length->J,Int->I,rfl->R,Option.some->S,Option.none->U,Bool.true->So,Bool.false->Sn,absurd->Sz,Array.size->Z,Nat->N,Decidable.decide->Jd
open Value renaming int->Si,agg->Sa,bool->Sb,tuple->St,slice->X
open Go renaming IntKind.i64->S6,Obj.cells->Sc,Ending.returned->Rt,Calls->Sk,RowKit.Below->Sw,RowKit.intOf->JB,World.cell?->E,World.setCell->Se
open Go.RowKit Go.Proofs.Tryz Go.Shelf
variable{t T:I}{n m k B c:N}{w:Ub}{a:Uj}{p:Uy}{s:Wa}
section
open Go.Maps
def ay(v:Value):Option (DataW Unit×List MemPlace):=match v with
 |.agg a=>match a.1 with
  |[Si S6 o,Si S6 d,Si S6 x,Si S6 y,Si S6 i]=>S (.agg [.lit (.int S6 o),.lit (.int S6 d),.lit (.int S6 x),.lit (.int S6 y),.lit (.int S6 i)],[])
  |_=>U
 |_=>U
def fu(x:Yg):DataW Unit:=.agg [.lit (.int S6 x.1),.lit (.int S6 x.2),.lit (.int S6 x.a),.lit (.int S6 x.b),.lit (.int S6 x.5)]
def d9(x:Yg):Uj:=Sa #[Si S6 x.1,Si S6 x.2,Si S6 x.a,Si S6 x.b,Si S6 x.5]
theorem Io{x}:ay (d9 x)=S (fu x,[]):=R
theorem mu{y:DataW Unit×List MemPlace}(h:ay a=S y):∃x,a=d9 x/\y=(fu x,[]):=by
 unfold ay at h;split at h
 .rename_i c;split at h
  .rename_i o d p q i b;cases h;refine⟨⟨o,d,p,q,i⟩,?_,R⟩;cases c;simp only at b;subst b;rfl
  cases h
 cases h
theorem rI{x y}(h:fu x=fu y):x=y:=by let⟨a,d,c,g,j⟩:=x;let⟨b,e,f,i,k⟩:=y;simp only[fu,kC,List.cons.injEq,DataW.lit.injEq,Lit.int.injEq,true_and,and_true]at h;obtain⟨rfl,rfl,rfl,rfl,rfl⟩:=h;rfl
theorem RC:Keyed prog 2:=int_keyed underlying2
theorem oD(t)(h:-9223372036854775808<=t/\t<=9223372036854775807):keyOf prog 2 (Si S6 t)=S (.int S6 t):=keyOf_int_mk underlying2<|WalkArith.wf_i64 h
theorem lm(t):WideAt.IsKeyLit (.int S6 t):=by simp[WideAt.IsKeyLit]
structure aK(D_:DataW Unit)(L:Wy):Prop where
 tidy:Tidy D_
 keys:∀k,has D_ k=So↔∃m∈L,k=.int S6 m.1
 at_:∀m∈L,∀z,D_.atKey (.int S6 m.1) z=fu (N3 m)
 size:size D_=J L
theorem aK.nil:aK (.map []) []:=⟨tidy_empty,λk=>by simp[has],(λm a=>by cases a),R⟩
theorem aK.has_iff{b L}(h:aK b L)(t):has b (.int S6 t)=L.any (λm=>m.1==t):=by
 cases hb:L.any (λm=>m.1==t)with
 |true=>
  obtain⟨m,a,e⟩:=List.any_eq_true.1 hb;exact(h.2 _).2 ⟨m,a,by rw[show m.1=t by simpa using e]⟩
 |false=>
  cases hh:has b (.int S6 t)with
  |false=>rfl
  |true=>
   obtain⟨m,a,e⟩:=(h.2 _).1 hh;have:=List.any_eq_false.1 hb m a;simp only[Lit.int.injEq,true_and]at e;simp[e]at this
theorem aK.put_new{c L}(h:aK c L){m}(a:L.any (λq=>q.1==m.1)=Sn):aK (c.put (.int S6 m.1) (fu<|N3 m)) (L++[m]):=by
 have b:∀q∈L,q.1≠m.1:=λq hq e=>by have:=List.any_eq_false.1 a q hq;simp[e]at this
 refine⟨h.1.put (lm _) _,λk=>?_,λq hq z=>?_,?_⟩
 .by_cases e:k=.int S6 m.1
  .subst e;exact⟨λ_=>⟨m,sP,R⟩,λ_=>has_put_same h.1.isMap (lm _) _⟩
  rw[has_put_other e,h.2 k];constructor;·rintro⟨q,hq,e2⟩;exact⟨q,dD _ hq,e2⟩
  rintro⟨q,hq,e2⟩;obtain hq|hq:=bU.1 hq;·exact⟨q,hq,e2⟩
  rw[cS.1 hq]at e2;exact Sz e2 e
 .rcases bU.1 hq with hq|hq
  .rw[atKey_put_other λe=>b q hq<|by simpa using e];exact h.3 q hq z
  rw[cS.1 hq];exact atKey_put_same h.1.isMap (lm _) _ _
 rw[size_put h.1,h.has_iff,a,h.4];simp
theorem aK.del{o L}(h:aK o L)(g:(ai L).Nodup)(t):aK (o.del<|.int S6 t) (ff L t):=by
 have b:∀q,q∈ff L t↔q∈L/\q.1≠t:=λq=>by simp[ff]
 refine⟨h.1.del _,λk=>?_,λq hq z=>?_,?_⟩
 .by_cases e:k=.int S6 t
  .subst e;rw[has_del_same];constructor;·intro h;cases h
   rintro⟨q,hq,e2⟩;exact Sz (by simpa using e2.symm) ((b q).1 hq).2
  rw[has_del_other e,h.2 k];constructor;·rintro⟨q,hq,e2⟩;exact⟨q,(b q).2 ⟨hq,λe3=>e<|by rw[e2,e3]⟩,e2⟩
  rintro⟨q,hq,e2⟩;exact⟨q,((b q).1 hq).1,e2⟩
 .obtain⟨c,d⟩:=(b q).1 hq;rw[atKey_del_other λe=>d<|by simpa using e];exact h.3 q c z
 have j:=size_del (k:=.int S6 t) h.1
 rw[h.has_iff,h.4]at j;have n:∀(a:Wy),(ai a).Nodup->J (ff a t)+(if a.any (λm=>m.1==t)then 1 else 0)=J a:=by
  intro a
  induction a with
  |nil=>intro _;rfl
  |cons m a l=>
   intro f;obtain⟨c,d⟩:=fL.1 f;have:=l d;unfold ff at*;by_cases e:m.1=t
   .have i:a.any (λm=>m.1==t)=Sn:=List.any_eq_false.2 (λq hq=>by
     have:q.1≠t:=λe2=>c<|by show m.1∈ai a;rw[e,<-e2];exact aY.2 ⟨q,hq,R⟩
     simpa using this)
    rw[sk (by simp[e]),List.any_cons,show(m.1==t)=So by simpa using e,Bool.true_or,aU R,bA];rw[i]at this;simpa using this
   rw[sC (by simpa using e),List.any_cons,show(m.1==t)=Sn by simpa using e,jV,bA,bA];omega
 have:=n L g;omega
def oy(L:Wy)(t:I):Wy:=L.map λm=>if m.1=t then ⟨m.1,-1⟩else m
theorem aK.put_old{f L}(h:aK f L)(b:L.any (λm=>m.1==t)=So):aK (f.put (.int S6 t) (fu ⟨13,t,0,0,0⟩)) (oy L t):=by
 have c:∀m:Mv,(if m.1=t then (⟨m.1,-1⟩:Mv)else m).1=m.1:=λm=>by split<;>rfl
 refine⟨h.1.put (lm _) _,λk=>?_,λq hq z=>?_,?_⟩
 .have d:(∃m∈oy L t,k=.int S6 m.1)↔∃m∈L,k=.int S6 m.1:=by
   constructor
   .rintro⟨m,a,e⟩;obtain⟨q,hq,rfl⟩:=aY.1 a;exact⟨q,hq,by rw[e,c]⟩
   rintro⟨m,a,e⟩;exact⟨_,aY.2 ⟨m,a,R⟩,by rw[c];exact e⟩
  rw[d];by_cases e:k=.int S6 t
  .subst e;rw[has_put_same h.1.isMap<|lm _,<-h.2,h.has_iff,b]
  rw[has_put_other e,h.2]
 .obtain⟨m,a,rfl⟩:=aY.1 hq;by_cases e:m.1=t
  .rw[aU e];show(f.put (.int S6 t) _).atKey (.int S6 m.1) z=_;rw[e,atKey_put_same h.1.isMap<|lm _];rfl
  rw[aM e,atKey_put_other λe2=>e<|by simpa using e2];exact h.3 m a z
 rw[size_put h.1,h.has_iff,b,aU R,h.4];simp[oy]
theorem aK.perm{r L}(h:aK r L)(l:(ai L).Nodup)(k:∀a,r=.map a->∀p∈a,WideAt.IsKeyLit p.1):(intKeys r).Perm (ai L):=by
 obtain⟨a,rfl,q⟩:=h.1;have c:∀p∈a,∃m∈L,p.1=.int S6 m.1:=λp b=>(h.2 p.1).1 (by rw[has_eq];exact List.any_eq_true.2 ⟨p,b,WideAt.sameKey_self<|k a R p b⟩)
 have n:(a.map λp=>intOf p.1).Nodup:=by unfold List.Nodup;rw[List.pairwise_map];refine q.imp_of_mem λ{g i} ha j o e=>?_;obtain⟨m1,_,e1⟩:=c g ha;obtain⟨m2,_,e2⟩:=c i j;rw[e1,e2]at e;exact o<|by rw[e1,e2];exact fI (Lit.int S6) e
 refine(List.perm_ext_iff_of_nodup n l).2 λt=>?_;constructor
 .intro f;obtain⟨p,b,rfl⟩:=aY.1 f;obtain⟨m,d,e⟩:=c p b;rw[e];exact aY.2 ⟨m,d,R⟩
 intro f;obtain⟨m,d,rfl⟩:=aY.1 f;have:=(h.2<|.int S6 m.1).2 ⟨m,d,R⟩;rw[has_eq]at this;obtain⟨p,b,e⟩:=List.any_eq_true.1 this;refine aY.2 ⟨p,b,?_⟩;rw[WideAt.sameKey_eq e];rfl
end
section
open Go.Maps
theorem RD(w:Ub):(zeroValue 64).run prog w=.ok (d9 ⟨0,0,0,0,0⟩) w:=vZ
theorem In{j L}(h:w.ownsMap prog 2 ay n m j)(b:aK j L)(d:-9223372036854775808<=t/\t<=9223372036854775807):
 ∃x,(Instr.lookup 235 (.map (S n)) (Si S6 t) So).run prog w=.ok (St #[d9 x,Sb (L.any λf=>f.1==t)]) w:=by
 obtain⟨i,g,c,F,_,a⟩:=h;obtain⟨hrun,_,hz⟩|⟨e0,y,_,_,hrun,hR,hz,_⟩:=Maps.fit_look So RC underlying235 (RD w) c F (oD t d)
 .refine⟨⟨0,0,0,0,0⟩,?_⟩;have:has j (.int S6 t)=Sn:=has_false_of_atKey (a▸hz);rw[b.has_iff]at this;rw[this];exact hrun
 obtain⟨x,e,rfl⟩:=mu hR;refine⟨x,?_⟩;have:has j (.int S6 t)=So:=has_true_of_atKey (y:=fu x) (a▸hz);rw[b.has_iff]at this;rw[this,<-e];exact hrun
theorem xT{j L}(h:w.ownsMap prog 2 ay n m j)(e:aK j L){a}(d:a∈L)(g:-9223372036854775808<=a.1/\a.1<=9223372036854775807):
 (Instr.lookup 235 (.map (S n)) (H a.1) Sn).run prog w=.ok (d9<|N3 a) w:=by
 let⟨v,i,f,b⟩:=h.lookup RC underlying235 (RD w) (Io) (oD a.1 g);rw[e.3 a d]at b;obtain⟨x,rfl,c⟩:=mu b;simp only[jC]at c;rw[f,rI c.1]
theorem GK(t:I)(x:Yg)(W:Ub):Sk prog 148 (#[H t,d9 x]++#[]) W λe a=>e=Rt (Sb (x.a==t))/\W.grownBy a U:=by
 unfold d9
 go_in
 go_wp2;go_ret;exact⟨R,bW _ _ _⟩
def iz(L:Wy)(left:Lit->Bool):Wy:=L.filter λm=>left (.int S6 m.1)||(m.1 != m.2)
theorem GH{L}{left:Lit->Bool}(h:∀m∈L,left (.int S6 m.1)=So):iz L left=L:=List.filter_eq_self.2 λm a=>by rw[h m a];rfl
theorem GU{L}{left:Lit->Bool}(h:∀k,left k=Sn):iz L left=bu L:=by unfold iz bu;congr 1;funext m;rw[h];rfl
theorem pt{left:Lit->Bool}(h:T≠t):(left (.int S6 T)&&!(Lit.int S6 T).sameKey (.int S6 t))=left (.int S6 T):=by rw[sameKey_ne λe=>h<|by simpa using e];simp
theorem rE{left:Lit->Bool}:(left (.int S6 t)&&!(Lit.int S6 t).sameKey (.int S6 t))=Sn:=by rw[WideAt.sameKey_self<|lm t];simp
theorem GP{L}(g:(ai L).Nodup){left:Lit->Bool}{m}(f:m∈L)(h:m.1≠m.2):iz L (λz=>left z&&!z.sameKey (.int S6 m.1))=iz L left:=by
 unfold iz;refine lW λq hq=>?_;by_cases e:q.1=m.1
 .have k:q=m:=by
   obtain⟨i,b,rfl⟩:=bR hq;obtain⟨j,c,rfl⟩:=bR f;have d:=gY.1 (show(L.map (·.1)).Pairwise (·≠·)from g);obtain a|a|a:=mA i j;·exact(d i j SJ SK a (by simp[e])).elim
   .subst a;rfl
   exact(d j i SK SJ a (by simp[e])).elim
  subst k;have:(q.1 != q.2)=So:=by simpa using h
  rw[this,Bool.or_true,Bool.or_true]
 dsimp only;rw[pt e]
theorem GN{L}(h:(ai L).Nodup){left:Lit->Bool}{m}(g:m∈L)(f:m.1=m.2):iz L (λz=>left z&&!z.sameKey (.int S6 m.1))=ff (iz L left) m.1:=by
 unfold iz ff;rw[List.filter_filter];refine lW λq hq=>?_;by_cases e:q.1=m.1
 .have k:q=m:=by
   obtain⟨i,b,rfl⟩:=bR hq;obtain⟨j,c,rfl⟩:=bR g;have d:=gY.1 (show(L.map (·.1)).Pairwise (·≠·)from h);obtain a|a|a:=mA i j;·exact(d i j SJ SK a (by simp[e])).elim
   .subst a;rfl
   exact(d j i SK SJ a (by simp[e])).elim
  subst k;dsimp only;rw[rE,show(q.1 != q.2)=Sn by simpa using f];simp
 dsimp only;rw[pt e,show(q.1 != m.1)=So by simpa using e];simp
theorem GG{L}(a:(ai L).Nodup)(left:Lit->Bool):(ai<|iz L left).Nodup:=a.sublist<|List.filter_sublist.map _
theorem ye{m}(h:0<=m.2):N3 m=⟨11,m.1,m.2,0,0⟩:=aM O
theorem Gz(c){L}(aa:w.ownsMap prog 2 ay n m c)(K:Q (aK c L))(o:Q (iP L)):
 Sk prog 147 #[.map (S n),.func (.func 148) #[] #[]] w λg M=>g=Rt (St #[])/\w.grownBy M (S n)/\∃C,M.ownsMap prog 2 ay n m C/\aK C (bu L):=by
 have eg:∀args w,(callFunc 148 args).run prog w=.ok (.enter 148 args) w:=enters_of func148 vZ R
 go_in
 go_wp2_with (first
  |(at_range;refine wpList_range_own _ R _ 235 R 2 64 RC underlying235 ay n m c R aa ?_;intro w0 P V ab)
  |go_in)
 go_frame
 go_loopw [8] (λ_ wr=>∃(left:Lit->Bool)(W:N)(k:DataW Unit),wr.ranges prog 2 ay n (Z w.1) m k left W/\w.grownBy wr (S n)/\Q (aK k<|iz L left))
  (λ_ wr=>wr.rangeLeft n (Z w.1))
 .exact⟨_,_,_,P,V.but _,Y<|by rw[GH λa Y_=>(K.2 _).2 ⟨a,Y_,R⟩];exact K⟩
 clear P V ab;obtain⟨left,W,k,q,I_,f⟩:=hrel
 go_wp2_with (first
  |(at_next;refine wpList_next_ranges _ R _ R 2 RC ay (Si S6) d9 (λaz kl p=>by obtain⟨x,rfl,_⟩:=Maps.keyOf_int_inv underlying2 p;exact⟨x,R⟩) (λa0 a6 t=>by obtain⟨x,rfl,_⟩:=mu t;exact⟨x,R⟩) n (Z w.1) m _ _ _ R q ?_ ?_)
  |go_in)
 .intro _ V_;go_wp2
  go_end0
  exact⟨R,I_,k,q.owns,(GU V_)▸f⟩
 intro x c_ kl yd yp P_ R_ p ao t y r X_ U_ aq af
 have J_:=I_.andThen U_ (λj b=>by cases b;exact bC<|aA);obtain⟨x',ex,rfl,ar⟩:=Maps.keyOf_int_inv underlying2 p;cases ex;obtain⟨l,v,F_⟩:=mu t;obtain⟨rfl,rfl⟩:=Prod.mk.inj F_;have T:l=c_:=by obtain⟨a1,a2,a3,a4,a5⟩:=c_;obtain⟨b1,b2,b3,b4,b5⟩:=l;simp only[d9,Value.agg.injEq]at v;have:=fI Array.toList v;simp at this;obtain⟨rfl,rfl,rfl,rfl,rfl⟩:=this;rfl
 subst T;obtain⟨a,M_,F⟩:=(f.2<|.int S6 x).1 (has_true_of_atKey (y:=fu l) y);have Z_:x=a.1:=by simpa using F
 have G_:l=N3 a:=rI (by rw[<-f.3 a M_ (.lit (.bool So)),<-F];exact(y _).symm);have z:=(fG.1 M_).1;have aj:=o.2 a z;rw[ye O]at G_;subst Z_ G_;unfold d9 at*;clear F F_ v t y;dsimp only at*;have ad:=r.owns.lt;have ap:=r.lt;have d:=λW_=>GK a.1 ⟨11,a.1,a.2,0,0⟩ W_;unfold d9 at d;dsimp only at d;by_cases e:a.2=a.1
 .have u:=Y<|GN o.1 (left:=left) z e.symm;have h:(a.2==a.1)=So:=by simpa using e
  rw[h]at d;clear h e
  go_wp2_with (first
   |(go_at_fn 148;refine YU (d _) λw2 i=>?_;have s:=(r.alloc<|Sc #[Si S6 11,Si S6 a.1,Si S6 a.2,Si S6 0,Si S6 0] 64).kept i sP sP)
   |(at_delete;refine wpList_delete_ranges _ R _ _ 235 2 R 64 RC underlying235 ay n (Z w.1) m _ _ _ R s _ _ R p ?_;intro w3 S_ B al ac;go_frame)
   |go_in)
  rw[strike_twice]at B;have Q_:=Y<|f.del (GG o.1 left) a.1
  go_roundw
  .exact⟨_,S_,_,B,((J_.andThen (bW P_ _ U) λj b=>by cases b).andThen i λj b=>by cases b).andThen ac.grown (λj b=>by cases b;exact aZ R),Y (u.o▸Q_)⟩
  rw[B.left_eq,q.left_eq];omega
 have u:=Y (GP o.1 (left:=left) z λg=>e g.symm);have h:(a.2==a.1)=Sn:=by simpa using e
 rw[h]at d;clear h e
 go_wp2_with (first
  |(go_at_fn 148;refine YU (d _) λw2 i=>?_)
  |go_in)
 have s:=(r.alloc<|Sc #[Si S6 11,Si S6 a.1,Si S6 a.2,Si S6 0,Si S6 0] 64).kept i sP sP
 go_roundw
 .exact⟨_,R_,_,s,(J_.andThen (bW P_ _ U) λj b=>by cases b).andThen i (λj b=>by cases b),Y (u.o▸f)⟩
 rw[s.left_eq,q.left_eq];exact X_
end
section
open Go.Maps
theorem RE:prog.underlying 235=S (.map 2 64):=underlying235
theorem zSQ80{p: Prop}(h: p := by refine YL (v:=St #[.map (S (Z w.1)),Sb Sn]) ?_;exact⟨Xb (Xb d _) _,by rw[b.o],λh=>by rw[b.o]at h;cases h⟩): p := h
theorem GB(c_){a}(ha:Q (gj w m k p a))(z:Q (n=J a))(hn:n<=1048576)(hB:k<=Z w.1)(hr:Q (∀F∈a,-9223372036854775808<=F.1/\F.1<=9223372036854775807)):
 Sk prog 129 #[X p n c_] w λu_ T=>Sw (Z w.1) w T/\u_=Rt (St #[.map (S (Z w.1)),Sb (bw a)])/\(bw a=So->∃c,T.ownsMap prog 2 ay (Z w.1) 64 c/\aK c (bu a)):=by
 have az:=@run_makeMap prog;by_cases Z_:64<n
 .have C:Q (bw a=Sn):=Y (by unfold bw;have:=z.o;simp;intro h;omega)
  go_in
  go_wp2;refine YL (v:=St #[.map (S (Z w.1)),Sb Sn]) ?_;exact⟨Xb Rf _,by rw[C.o],λh=>by rw[C.o]at h;cases h⟩
 have C:Q (bw a=gy [] a):=Y (by unfold bw;have:=z.o;simp;omega);have a0:n<=64:=O;clear Z_
 go_in
 go_wp2
 go_loopw [16] (λK wr=>∃(q:N)(c:DataW Unit),q<=n/\K=Si S6 q/\Q (Sw (Z w.1) w wr)/\Q (wr.ownsMap prog 2 ay (Z w.1) q c)/\Q (aK c<|a.take q)/\Q (iP<|a.take q)/\Q (bw a=gy (a.take q) (a.drop q))) λK _=>n-(JB K).toNat
 .exact⟨0,.map [],aN,R,Y<|Xb Rf _,Y<|World.ownsMap_made _ _ _ _,Y (by rw[lK];exact aK.nil),Y (by rw[lK];exact⟨by simp[ai],sP⟩),Y<|by rw[C.o];rfl⟩
 obtain⟨q,c,hq,rfl,d,B,j,o,e⟩:=hrel;have aj:=d.4;by_cases ar:q<n
 .have s:q<J a:=oN z.o;obtain⟨ap,a2,rfl,aq,V,W⟩:=ha q s;have e0:=G (XU d O) V;have e1:=G (XU d O) W;have l:=Y<|xZ s;have s_:=Y<|bN s;have x:=hr _<|aH s;clear V W;generalize hm:a[q]=F at*;obtain⟨t,f⟩:=F;dsimp only at*;clear hm;obtain⟨ao,Q_⟩:=In (B.alloc<|Sc #[Si S6 t,Si S6 f] 186) j x;unfold d9 at Q_
  (try dsimp only at Q_)
  have i:Q (ly (a.take q) ⟨t,f⟩=(Jd (0<=t/\t<64/\0<=f/\f<64)&&!(a.take q).any λL=>L.1==t)):=Y R;generalize P_:(a.take q).any (λL=>L.1==t)=tw at*;have B_:=Y P_;clear P_;obtain⟨y0,y1,y2,y3,y4⟩:=ao
  (try dsimp only at*)
  cases tw with
  |true=>
   have b:Q (bw a=Sn):=Y (by rw[e.o,l.o,i.o];simp);go_wp2;refine YL (v:=St #[.map (S (Z w.1)),Sb Sn]) ?_;exact⟨Xb (Xb d _) _,by rw[b.o],λh=>by rw[b.o]at h;cases h⟩
  |false=>
   by_cases y:0<=t/\t<64
   .have u:Q (Tp So t 0 64=So):=Y (by simp[Tp,y]);by_cases v:0<=f/\f<64
    .have M:Q (Tp So f 0 64=So):=Y (by simp[Tp,v]);have H_:Q (ly (a.take q) ⟨t,f⟩=So):=Y (by rw[i.o];simp[y,v]);have M_:Q (N3 ⟨t,f⟩=⟨11,t,f,0,0⟩):=Y<|ye v.1;have W_:=Y<|oD t x;have X_:Q (aK (c.put (.int S6 t) (fu ⟨11,t,f,0,0⟩)) (a.take<|q+1)):=Y (by rw[s_.o,<-M_.o];exact j.put_new (m:=⟨t,f⟩) B_);have U_:Q (iP<|a.take (q+1)):=Y (by rw[s_.o];exact o.snoc H_);have V_:Q (bw a=gy (a.take<|q+1) (a.drop<|q+1)):=Y (by rw[e.o,l.o,H_.o,rS]);clear j o e x y v
     go_wp2_with (first
      |(go_at_call 47;refine YU Yp λr g=>?_;rw[g];clear g r;first|rw[u.o]|rw[M.o])
      |(at_mapUpdate;refine wn _ R _ _ _ 235 R 2 64 RC RE ay (Z w.1) q c R ((B.alloc _).alloc _) SD _ _ _ R R W_ (fu ⟨11,t,f,0,0⟩) [] R ?_;intro w3 af ab))
     exact⟨⟨q+1,_,O,gM,Y ((Xb (Xb d _) _).grown ab SB λal P=>by cases P;exact aA),Y af,X_,U_,V_⟩,SA⟩
    have M:Q (Tp So f 0 64=Sn):=Y (by simp[Tp];omega);have b:Q (bw a=Sn):=Y (by rw[e.o,l.o,i.o];simp;omega);clear j o e x y v;go_wp2_with (go_at_call 47;refine YU Yp λr g=>?_;rw[g];clear g r;first|rw[u.o]|rw[M.o])
    exact zSQ80
   have u:Q (Tp So t 0 64=Sn):=Y (by simp[Tp];omega);have b:Q (bw a=Sn):=Y (by rw[e.o,l.o,i.o];simp;omega);clear j o e x y;go_wp2_with (go_at_call 47;refine YU Yp λr g=>?_;rw[g];clear g r;rw[u.o])
   exact zSQ80
 have a1:q=n:=O;have b:Q (bw a=So):=Y (by rw[e.o,mP<|oN z.o];rfl);have Y_:Q (a.take q=a):=Y<|aW (oN z.o);rw[Y_.o]at j o;have T_:=Y<|Gz c B j o;go_wp2_with (go_at_call 147;refine YU T_ λr⟨aa,S_,ad,ac⟩=>?_)
 refine YL (v:=St #[.map (S (Z w.1)),Sb So]) ?_;exact⟨d.grown aa aj (λal P=>by cases P;exact aA),by rw[b.o],λ_=>⟨S_,ad.mono O,ac⟩⟩
end
section
open Go.Maps
theorem yu(h:n<64):(n:I).tdiv 64=0:=by rw[fY O];omega
theorem yw(h:n<64):(n:I).tmod 64=n:=by rw[eW O];omega
theorem IC(c:m<64)(b:n<18446744073709551616):n|||2^m<18446744073709551616:=by have a:2^m<2^64:=lB vY c;exact Nat.or_lt_two_pow (n:=64) SJ a
theorem GY:Sk prog 149 #[H 64] w λe a=>∃g,e=Rt (Sa #[Hl g 1 1])/\Z w.1<=g/\Sw (Z w.1) w a/\E a (A g 0)=S (Si .u64 ((0:N):I))/\∀q,a.frozen? (A g q)=Sn:=by
 have b:=fM (P:=prog) 84 173 (Si .u64 0) 8 underlying84 Qg R S6 S6 1 O O;rw[show((1:N):I)=1 from R]at b
 go_in
 go_wp2;refine YL (v:=Sa #[Hl (Z w.1+1) 1 1]) ?_;exact⟨Z w.1+1,R,O,Xb (Xb Rf _) _,by simp[madeCells],λq=>sP⟩
theorem Ik(b:k<64)(c:m<18446744073709551616)(a:E w (A n 0)=S (Si .u64 m)):Sk prog 153 #[Sa #[Hl n 1 1],H k] w λe f=>e=Rt (Sb (m.testBit k))/\Sw (Z w.1) w f:=by
 have g:=yu b;have h:=yw b;have d:n<Z w.1:=aI w _ a;have i:=λx=>oB (Xb (dC (Z w.1) w) x) a d
 go_in
 go_wp2;go_ret;exact⟨Xl<|ux c,Xb Rf _⟩
def ie(W:N)(b:Wa):N:=b.foldl (λa t=>a|||2^t) W
theorem Iq(L)(ha:Q (Xf w L B p<|s.map Int.ofNat))(x:Q (k=J s))(V_:k<=64)(y:Q (∀t∈s,t<64))(C:m<18446744073709551616)(a:E w (A n 0)=S (Si .u64 m))(M:∀q,w.frozen? (A n q)=Sn)(Q_:B<=Z w.1)(S_:¬(L<=n/\n<B)):
 Sk prog 150 #[Sa #[Hl n 1 1],X p k c] w λe l=>e=Rt (St #[])/\w.grownBy l (S n)/\ie m s<18446744073709551616/\E l (A n 0)=S (Si .u64 (ie m s))/\∀q,l.frozen? (A n q)=Sn:=by
 go_in
 go_wp2;have M_:=ha;have P:n<Z w.1:=aI w _ a
 go_loopw [8] (λu wr=>∃q:N,q<=k/\u=H q/\Q (w.grownBy wr<|S n)/\E wr (A (Z w.1) 0)=S (Hl n 1 1)/\Q (ie m (s.take q)<18446744073709551616)/\E wr (A n 0)=S (Si .u64 (ie m<|s.take q))/\Q (∀b,wr.frozen? (A n b)=Sn)) λu _=>k-(JB u).toNat
 .exact⟨0,aN,R,Y<|bW _ _ _,sP,Y (by simpa [ie]using C),by rw[bP _ _ _ P];simpa [ie]using a,Y λb=>by rw[Bs _ _ _ (by show n≠_;omega)];exact M b⟩
 obtain⟨q,hq,rfl,f,T,d,a,h⟩:=hrel;by_cases U_:q<k
 .have j:q<J s:=oN x.o
  obtain⟨r,K,rfl,R_,v⟩:=ha q (by simpa using j);have i:=G (Xc<|f.5 r O λe=>by injection e with e;omega) v;rw[cM]at i;have g:=y _<|aH j;have o:Q (ie m (s.take<|q+1)=ie m (s.take q)|||2^s[q]):=Y (by unfold ie;rw[bN j,dT];rfl)
  have X_:=h 0;generalize s[q]=t at*;have O_:=yu g;have P_:=yw g;generalize C_:ie m (s.take q)=z at*;have N_:Cl wr r (K+q) (H t):=i;go_wp2;go_region;go_wp2;rw[tZ g d.o];have T_:=f.4;have V:wr.grownBy (Se wr (A n 0) (Si .u64 ((z|||2^t:N):I))).drew (S n):=⟨R,R,R,by simp[World.setCell,World.drew],λb _ F=>cY λe=>F<|by rw[e]⟩;refine⟨⟨q+1,O,gM,Y (f.andThen V λY_ W=>by cases W;exact aZ R),?_,Y ?_,?_,Y ?_⟩,SA⟩;·exact G (bH wr (A n 0) (A (Z w.1) 0) _ (by show n≠Z w.1;omega)) T
  .rw[o.o];exact IC g d
  .rw[o.o];exact fQ _ _ _ a
  intro b;show(Se wr _ _).frozen? _=Sn;rw[eX];exact h b
 have W_:q=k:=O;have y_:Q (s.take q=s):=Y<|aW (oN x.o);rw[y_.o]at a d;go_wp2
 go_end0
 exact⟨R,f,d,a,h⟩
end
end Go.Proofs.YtcncjgijikoapaaGreatDoor
