import Derived.Test.YtcfdhbigppockaaGreatDoorLO0
import Derived.Maps.Views
import Derived.Maps.OwnOps
import Derived.Maps.RangeWalk
import Derived.Lib.SlKeysI
import Derived.Laws.IdiomRangeMap
namespace Go.Proofs.YtcfdhbigppockaaGreatDoor
set_option maxHeartbeats 4000000
set_option maxRecDepth 100000
open Go.RowKit Go.Proofs.Tryz Go.Shelf
variable{t T:Int}{n m k B c:Nat}{w:Ub}{a:Uj}{p:Uy}{s:Wa}
section
open Go.Maps
def ay(v:Value):Option (DataW Unit×List MemPlace):=match v with
 |.agg a=>match a.1 with
  |[.int .i64 o,.int .i64 d,.int .i64 x,.int .i64 y,.int .i64 i]=>some (.agg [.lit (.int .i64 o),.lit (.int .i64 d),.lit (.int .i64 x),.lit (.int .i64 y),.lit (.int .i64 i)],[])
  |_=>none
 |_=>none
def fu(x:Yg):DataW Unit:=.agg [.lit (.int .i64 x.1),.lit (.int .i64 x.2),.lit (.int .i64 x.a),.lit (.int .i64 x.b),.lit (.int .i64 x.5)]
def d9(x:Yg):Uj:=.agg #[.int .i64 x.1,.int .i64 x.2,.int .i64 x.a,.int .i64 x.b,.int .i64 x.5]
theorem Io{x:Yg}:ay (d9 x)=some (fu x,[]):=rfl
theorem mu{y:DataW Unit×List MemPlace}(h:ay a=some y):∃x,a=d9 x/\y=(fu x,[]):=by
 unfold ay at h;split at h
 .rename_i c;split at h
  .rename_i o d p q i b;cases h;refine⟨⟨o,d,p,q,i⟩,?_,rfl⟩;cases c;simp only at b;subst b;rfl
  cases h
 cases h
theorem rI{x y:Yg}(h:fu x=fu y):x=y:=by
 let⟨a,d,c,g,j⟩:=x;let⟨b,e,f,i,k⟩:=y;simp only[fu,kC,List.cons.injEq,DataW.lit.injEq,Lit.int.injEq,true_and,and_true]at h;obtain⟨rfl,rfl,rfl,rfl,rfl⟩:=h;rfl
theorem RC:Keyed prog 2:=int_keyed underlying2
theorem oD(t:Int)(h:-9223372036854775808<=t/\t<=9223372036854775807):keyOf prog 2 (.int .i64 t)=some (.int .i64 t):=keyOf_int_mk underlying2<|WalkArith.wf_i64 h
theorem lm(t:Int):WideAt.IsKeyLit (.int .i64 t):=by simp[WideAt.IsKeyLit]
structure aK(D:DataW Unit)(L:Wy):Prop where
 tidy:Tidy D
 keys:∀k,has D k=true↔∃m∈L,k=.int .i64 m.1
 at_:∀m∈L,∀z,D.atKey (.int .i64 m.1) z=fu (N3 m)
 size:size D=L.length
theorem aK.nil:aK (.map []) []:=⟨tidy_empty,λk=>by simp[has],(λm a=>by cases a),rfl⟩
theorem aK.has_iff{D:DataW Unit}{L:Wy}(h:aK D L)(t:Int):has D (.int .i64 t)=L.any (λm=>m.1==t):=by
 cases hb:L.any (λm=>m.1==t)with
 |true=>
  obtain⟨m,a,e⟩:=List.any_eq_true.1 hb;exact(h.2 _).2 ⟨m,a,by rw[show m.1=t by simpa using e]⟩
 |false=>
  cases hh:has D (.int .i64 t)with
  |false=>rfl
  |true=>
   obtain⟨m,a,e⟩:=(h.2 _).1 hh;have:=List.any_eq_false.1 hb m a;simp only[Lit.int.injEq,true_and]at e;simp[e]at this
theorem aK.put_new{D:DataW Unit}{L:Wy}(h:aK D L){m:Mv}(a:L.any (λq=>q.1==m.1)=false):aK (D.put (.int .i64 m.1) (fu<|N3 m)) (L++[m]):=by
 have b:∀q∈L,q.1≠m.1:=λq hq e=>by have:=List.any_eq_false.1 a q hq;simp[e]at this
 refine⟨h.1.put (lm _) _,λk=>?_,λq hq z=>?_,?_⟩
 .by_cases e:k=.int .i64 m.1
  .subst e;exact⟨λ_=>⟨m,sP,rfl⟩,λ_=>has_put_same h.1.isMap (lm _) _⟩
  rw[has_put_other e,h.2 k];constructor;·rintro⟨q,hq,e2⟩;exact⟨q,dD _ hq,e2⟩
  rintro⟨q,hq,e2⟩;obtain hq|hq:=bU.1 hq;·exact⟨q,hq,e2⟩
  rw[cS.1 hq]at e2;exact absurd e2 e
 .rcases bU.1 hq with hq|hq
  .rw[atKey_put_other λe=>b q hq<|by simpa using e];exact h.3 q hq z
  rw[cS.1 hq];exact atKey_put_same h.1.isMap (lm _) _ _
 rw[size_put h.1,h.has_iff,a,h.4];simp
theorem aK.del{D:DataW Unit}{L:Wy}(h:aK D L)(g:(ai L).Nodup)(t:Int):aK (D.del<|.int .i64 t) (ff L t):=by
 have b:∀q,q∈ff L t↔q∈L/\q.1≠t:=λq=>by simp[ff]
 refine⟨h.1.del _,λk=>?_,λq hq z=>?_,?_⟩
 .by_cases e:k=.int .i64 t
  .subst e;rw[has_del_same];constructor;·intro h;cases h
   rintro⟨q,hq,e2⟩;exact absurd (by simpa using e2.symm) ((b q).1 hq).2
  rw[has_del_other e,h.2 k];constructor;·rintro⟨q,hq,e2⟩;exact⟨q,(b q).2 ⟨hq,λe3=>e<|by rw[e2,e3]⟩,e2⟩
  rintro⟨q,hq,e2⟩;exact⟨q,((b q).1 hq).1,e2⟩
 .obtain⟨c,d⟩:=(b q).1 hq;rw[atKey_del_other λe=>d<|by simpa using e];exact h.3 q c z
 have j:=size_del (k:=.int .i64 t) h.1
 rw[h.has_iff,h.4]at j;have n:∀(a:Wy),(ai a).Nodup->(ff a t).length+(if a.any (λm=>m.1==t)then 1 else 0)=a.length:=by
  intro a
  induction a with
  |nil=>intro _;rfl
  |cons m a l=>
   intro f;obtain⟨c,d⟩:=fL.1 f;have:=l d;unfold ff at*;by_cases e:m.1=t
   .have i:a.any (λm=>m.1==t)=false:=List.any_eq_false.2 (λq hq=>by
     have:q.1≠t:=λe2=>c<|by show m.1∈ai a;rw[e,<-e2];exact aY.2 ⟨q,hq,rfl⟩
     simpa using this)
    rw[List.filter_cons_of_neg (by simp[e]),List.any_cons,show(m.1==t)=true by simpa using e,Bool.true_or,aU rfl,bA];rw[i]at this;simpa using this
   rw[List.filter_cons_of_pos (by simpa using e),List.any_cons,show(m.1==t)=false by simpa using e,jV,bA,bA];omega
 have:=n L g;omega
def oy(L:Wy)(t:Int):Wy:=L.map λm=>if m.1=t then ⟨m.1,-1⟩else m
theorem aK.put_old{D:DataW Unit}{L:Wy}(h:aK D L)(b:L.any (λm=>m.1==t)=true):aK (D.put (.int .i64 t) (fu ⟨13,t,0,0,0⟩)) (oy L t):=by
 have c:∀m:Mv,(if m.1=t then (⟨m.1,-1⟩:Mv)else m).1=m.1:=λm=>by split<;>rfl
 refine⟨h.1.put (lm _) _,λk=>?_,λq hq z=>?_,?_⟩
 .have d:(∃m∈oy L t,k=.int .i64 m.1)↔∃m∈L,k=.int .i64 m.1:=by
   constructor
   .rintro⟨m,a,e⟩;obtain⟨q,hq,rfl⟩:=aY.1 a;exact⟨q,hq,by rw[e,c]⟩
   rintro⟨m,a,e⟩;exact⟨_,aY.2 ⟨m,a,rfl⟩,by rw[c];exact e⟩
  rw[d];by_cases e:k=.int .i64 t
  .subst e;rw[has_put_same h.1.isMap<|lm _,<-h.2,h.has_iff,b]
  rw[has_put_other e,h.2]
 .obtain⟨m,a,rfl⟩:=aY.1 hq;by_cases e:m.1=t
  .rw[aU e];show(D.put (.int .i64 t) _).atKey (.int .i64 m.1) z=_;rw[e,atKey_put_same h.1.isMap<|lm _];rfl
  rw[aM e,atKey_put_other λe2=>e<|by simpa using e2];exact h.3 m a z
 rw[size_put h.1,h.has_iff,b,aU rfl,h.4];simp[oy]
theorem aK.perm{D:DataW Unit}{L:Wy}(h:aK D L)(l:(ai L).Nodup)(k:∀a,D=.map a->∀p∈a,WideAt.IsKeyLit p.1):(intKeys D).Perm (ai L):=by
 obtain⟨a,rfl,q⟩:=h.1;have c:∀p∈a,∃m∈L,p.1=.int .i64 m.1:=λp b=>(h.2 p.1).1 (by
  rw[has_eq];exact List.any_eq_true.2 ⟨p,b,WideAt.sameKey_self<|k a rfl p b⟩)
 have n:(a.map λp=>intOf p.1).Nodup:=by
  unfold List.Nodup;rw[List.pairwise_map];refine q.imp_of_mem λ{g i} ha j o e=>?_;obtain⟨m1,_,e1⟩:=c g ha;obtain⟨m2,_,e2⟩:=c i j;rw[e1,e2]at e;exact o<|by rw[e1,e2];exact fI (Lit.int .i64) e
 refine(List.perm_ext_iff_of_nodup n l).2 λt=>?_;constructor
 .intro f;obtain⟨p,b,rfl⟩:=aY.1 f;obtain⟨m,d,e⟩:=c p b;rw[e];exact aY.2 ⟨m,d,rfl⟩
 intro f;obtain⟨m,d,rfl⟩:=aY.1 f;have:=(h.2<|.int .i64 m.1).2 ⟨m,d,rfl⟩;rw[has_eq]at this;obtain⟨p,b,e⟩:=List.any_eq_true.1 this;refine aY.2 ⟨p,b,?_⟩;rw[WideAt.sameKey_eq e];rfl
end
section
open Go.Maps
theorem RD(w:Ub):(zeroValue 66).run prog w=.ok (d9 ⟨0,0,0,0,0⟩) w:=vZ
theorem In{D:DataW Unit}{L:Wy}(h:w.ownsMap prog 2 ay n m D)(b:aK D L)(d:-9223372036854775808<=t/\t<=9223372036854775807):
 ∃x,(Instr.lookup 300 (.map (some n)) (.int .i64 t) true).run prog w=.ok (.tuple #[d9 x,.bool (L.any λf=>f.1==t)]) w:=by
 obtain⟨i,g,c,F,_,a⟩:=h;obtain⟨hrun,_,hz⟩|⟨e0,y,_,_,hrun,hR,hz,_⟩:=Maps.fit_look true RC underlying300 (RD w) c F (oD t d)
 .refine⟨⟨0,0,0,0,0⟩,?_⟩;have:has D (.int .i64 t)=false:=has_false_of_atKey (a▸hz);rw[b.has_iff]at this;rw[this];exact hrun
 obtain⟨x,e,rfl⟩:=mu hR;refine⟨x,?_⟩;have:has D (.int .i64 t)=true:=has_true_of_atKey (y:=fu x) (a▸hz);rw[b.has_iff]at this;rw[this,<-e];exact hrun
theorem xT{D:DataW Unit}{L:Wy}(h:w.ownsMap prog 2 ay n m D)(e:aK D L){a:Mv}(d:a∈L)(g:-9223372036854775808<=a.1/\a.1<=9223372036854775807):
 (Instr.lookup 300 (.map (some n)) (.int .i64 a.1) false).run prog w=.ok (d9<|N3 a) w:=by
 let⟨v,i,f,b⟩:=h.lookup RC underlying300 (RD w) (Io) (oD a.1 g);rw[e.3 a d]at b;obtain⟨x,rfl,c⟩:=mu b;simp only[jC]at c;rw[f,rI c.1]
theorem GK(t:Int)(x:Yg)(W:Ub):Calls prog 205 (#[.int .i64 t,d9 x]++#[]) W λe a=>e=.returned (.bool (x.a==t))/\W.grownBy a none:=by
 unfold d9
 go_in
 go_wp2;go_ret;exact⟨rfl,bW _ _ _⟩
def iz(L:Wy)(left:Lit->Bool):Wy:=L.filter λm=>left (.int .i64 m.1)||(m.1 != m.2)
theorem GH{L:Wy}{left:Lit->Bool}(h:∀m∈L,left (.int .i64 m.1)=true):iz L left=L:=List.filter_eq_self.2 λm a=>by rw[h m a];rfl
theorem GU{L:Wy}{left:Lit->Bool}(h:∀k,left k=false):iz L left=bu L:=by
 unfold iz bu;congr 1;funext m;rw[h];rfl
theorem pt{left:Lit->Bool}(h:T≠t):(left (.int .i64 T)&&!(Lit.int .i64 T).sameKey (.int .i64 t))=left (.int .i64 T):=by
 rw[sameKey_ne λe=>h<|by simpa using e];simp
theorem rE{left:Lit->Bool}:(left (.int .i64 t)&&!(Lit.int .i64 t).sameKey (.int .i64 t))=false:=by
 rw[WideAt.sameKey_self<|lm t];simp
theorem GP{L:Wy}(g:(ai L).Nodup){left:Lit->Bool}{m:Mv}(f:m∈L)(h:m.1≠m.2):iz L (λz=>left z&&!z.sameKey (.int .i64 m.1))=iz L left:=by
 unfold iz;refine lW λq hq=>?_;by_cases e:q.1=m.1
 .have k:q=m:=by
   obtain⟨i,b,rfl⟩:=bR hq;obtain⟨j,c,rfl⟩:=bR f;have d:=gY.1 (show(L.map (·.1)).Pairwise (·≠·)from g);obtain a|a|a:=mA i j;·exact(d i j (by simpa using b) (by simpa using c) a (by simp[e])).elim
   .subst a;rfl
   exact(d j i (by simpa using c) (by simpa using b) a (by simp[e])).elim
  subst k;have:(q.1 != q.2)=true:=by simpa using h
  rw[this,Bool.or_true,Bool.or_true]
 dsimp only;rw[pt e]
theorem GN{L:Wy}(h:(ai L).Nodup){left:Lit->Bool}{m:Mv}(g:m∈L)(f:m.1=m.2):iz L (λz=>left z&&!z.sameKey (.int .i64 m.1))=ff (iz L left) m.1:=by
 unfold iz ff;rw[List.filter_filter];refine lW λq hq=>?_;by_cases e:q.1=m.1
 .have k:q=m:=by
   obtain⟨i,b,rfl⟩:=bR hq;obtain⟨j,c,rfl⟩:=bR g;have d:=gY.1 (show(L.map (·.1)).Pairwise (·≠·)from h);obtain a|a|a:=mA i j;·exact(d i j (by simpa using b) (by simpa using c) a (by simp[e])).elim
   .subst a;rfl
   exact(d j i (by simpa using c) (by simpa using b) a (by simp[e])).elim
  subst k;dsimp only;rw[rE,show(q.1 != q.2)=false by simpa using f];simp
 dsimp only;rw[pt e,show(q.1 != m.1)=true by simpa using e];simp
theorem GG{L:Wy}(a:(ai L).Nodup)(left:Lit->Bool):(ai<|iz L left).Nodup:=a.sublist<|List.filter_sublist.map _
theorem ye{m:Mv}(h:0<=m.2):N3 m=⟨11,m.1,m.2,0,0⟩:=aM oM
theorem Gz(D:DataW Unit){L:Wy}(aa:w.ownsMap prog 2 ay n m D)(K:Hs (aK D L))(o:Hs (iP L)):
 Calls prog 204 #[.map (some n),.func (.func 205) #[] #[]] w λg O=>g=.returned (.tuple #[])/\w.grownBy O (some n)/\∃C,O.ownsMap prog 2 ay n m C/\aK C (bu L):=by
 have eg:∀args w,(callFunc 205 args).run prog w=.ok (.enter 205 args) w:=enters_of func205 vZ rfl
 go_in
 go_wp2_with (first
  |(at_range;refine wpList_range_own _ rfl _ 300 rfl 2 66 RC underlying300 ay n m D rfl aa ?_;intro w0 N H ab)
  |go_in)
 go_frame
 go_loopw [8] (λ_ wr=>∃(left:Lit->Bool)(E:Nat)(k:DataW Unit),wr.ranges prog 2 ay n w.1.size m k left E/\w.grownBy wr (some n)/\Hs (aK k<|iz L left))
  (λ_ wr=>wr.rangeLeft n w.1.size)
 case atStart=>exact⟨_,_,_,N,H.but _,Xa<|by rw[GH λa Y=>(K.2 _).2 ⟨a,Y,rfl⟩];exact K⟩
 clear N H ab;obtain⟨left,E,k,q,I,f⟩:=hrel
 go_wp2_with (first
  |(at_next;refine wpList_next_ranges _ rfl _ rfl 2 RC ay (Value.int .i64) d9 (λaz kl p=>by obtain⟨x,rfl,_⟩:=Maps.keyOf_int_inv underlying2 p;exact⟨x,rfl⟩) (λa0 a6 t=>by obtain⟨x,rfl,_⟩:=mu t;exact⟨x,rfl⟩) n w.1.size m _ _ _ rfl q ?_ ?_)
  |go_in)
 .intro _ V;go_wp2
  go_end0
  exact⟨rfl,I,k,q.owns,(GU V)▸f⟩
 intro x c kl yd yp P R p ao t y r X U aq af
 have J:=I.andThen U (λj b=>by cases b;exact bC<|aA);obtain⟨x',ex,rfl,ar⟩:=Maps.keyOf_int_inv underlying2 p;cases ex;obtain⟨l,v,F⟩:=mu t;obtain⟨rfl,rfl⟩:=Prod.mk.inj F;have T:l=c:=by
  obtain⟨a1,a2,a3,a4,a5⟩:=c;obtain⟨b1,b2,b3,b4,b5⟩:=l;simp only[d9,Value.agg.injEq]at v;have:=fI Array.toList v;simp at this;obtain⟨rfl,rfl,rfl,rfl,rfl⟩:=this;rfl
 subst T;obtain⟨a,M,A⟩:=(f.2<|.int .i64 x).1 (has_true_of_atKey (y:=fu l) y);have Z:x=a.1:=by simpa using A
 have G:l=N3 a:=rI (by rw[<-f.3 a M (.lit (.bool true)),<-A];exact(y _).symm);have z:=(fG.1 M).1;have aj:=o.2 a z;rw[ye oM]at G;subst Z G;unfold d9 at*;clear A F v t y;dsimp only at*;have ad:=r.owns.lt;have ap:=r.lt;have d:=λW=>GK a.1 ⟨11,a.1,a.2,0,0⟩ W;unfold d9 at d;dsimp only at d;by_cases e:a.2=a.1
 .have u:=Xa<|GN o.1 (left:=left) z e.symm;have h:(a.2==a.1)=true:=by simpa using e
  rw[h]at d;clear h e
  go_wp2_with (first
   |(go_at_fn 205;refine(d _).mono ?_;rintro g w2⟨rfl,i⟩;have s:=(r.alloc<|.cells #[.int .i64 11,.int .i64 a.1,.int .i64 a.2,.int .i64 0,.int .i64 0] 66).kept i sP sP)
   |(at_delete;refine wpList_delete_ranges _ rfl _ _ 300 2 rfl 66 RC underlying300 ay n w.1.size m _ _ _ rfl s _ _ rfl p ?_;intro w3 S B al ac;go_frame)
   |go_in)
  rw[strike_twice]at B;have Q:=Xa<|f.del (GG o.1 left) a.1
  go_roundw
  case rel=>exact⟨_,S,_,B,((J.andThen (bW P _ none) λj b=>by cases b).andThen i λj b=>by cases b).andThen ac.grown (λj b=>by cases b;exact aZ rfl),Xa (u.o▸Q)⟩
  rw[B.left_eq,q.left_eq];omega
 have u:=Xa (GP o.1 (left:=left) z λg=>e g.symm);have h:(a.2==a.1)=false:=by simpa using e
 rw[h]at d;clear h e
 go_wp2_with (first
  |(go_at_fn 205;refine(d _).mono ?_;rintro g w2⟨rfl,i⟩)
  |go_in)
 have s:=(r.alloc<|.cells #[.int .i64 11,.int .i64 a.1,.int .i64 a.2,.int .i64 0,.int .i64 0] 66).kept i sP sP
 go_roundw
 case rel=>exact⟨_,R,_,s,(J.andThen (bW P _ none) λj b=>by cases b).andThen i (λj b=>by cases b),Xa (u.o▸f)⟩
 rw[s.left_eq,q.left_eq];exact X
end
section
open Go.Maps
theorem RE:prog.underlying 300=some (.map 2 66):=underlying300
theorem zSQ80{p: Prop}(h: p := by
  refine cC (v:=.tuple #[.map (some w.1.size),.bool false]) (by simp[results,results186,go_sem, *]) rfl ?_;exact⟨Xb (Xb d _) _,by rw[b.o],λh=>by rw[b.o]at h;cases h⟩): p := h
theorem GB(c:Nat){a:Wy}(ha:Hs (gj w m k p a))(z:Hs (n=a.length))(hn:n<=1048576)(hB:k<=w.1.size)(hr:Hs (∀F∈a,-9223372036854775808<=F.1/\F.1<=9223372036854775807)):
 Calls prog 186 #[.slice p n c] w λu R=>Below w.1.size w R/\u=.returned (.tuple #[.map (some w.1.size),.bool (bw a)])/\(bw a=true->∃D,R.ownsMap prog 2 ay w.1.size 64 D/\aK D (bu a)):=by
 have az:=@run_makeMap prog;by_cases Z:64<n
 .have C:Hs (bw a=false):=Xa (by unfold bw;have:=z.o;simp;intro h;omega)
  go_in
  go_wp2;refine cC (v:=.tuple #[.map (some w.1.size),.bool false]) (by simp[results,results186,go_sem, *]) rfl ?_;exact⟨Xb (Below.refl _ _) _,by rw[C.o],λh=>by rw[C.o]at h;cases h⟩
 have C:Hs (bw a=gy [] a):=Xa (by unfold bw;have:=z.o;simp;omega);have a0:n<=64:=oM;clear Z
 go_in
 go_wp2
 go_loopw [16] (λK wr=>∃(q:Nat)(D:DataW Unit),q<=n/\K=.int .i64 q/\Hs (Below w.1.size w wr)/\Hs (wr.ownsMap prog 2 ay w.1.size q D)/\Hs (aK D<|a.take q)/\Hs (iP<|a.take q)/\Hs (bw a=gy (a.take q) (a.drop q))) λK _=>n-(RowKit.intOf K).toNat
 case atStart=>exact⟨0,.map [],aN,rfl,Xa<|Xb (Below.refl _ _) _,Xa<|World.ownsMap_made _ _ _ _,Xa (by rw[lK];exact aK.nil),Xa (by rw[lK];exact⟨by simp[ai],sP⟩),Xa<|by rw[C.o];rfl⟩
 obtain⟨q,D,hq,rfl,d,I,j,o,e⟩:=hrel;have aj:=d.4;by_cases ar:q<n
 .have E:q<a.length:=oN z.o;obtain⟨ap,a2,rfl,aq,N,O⟩:=ha q E;have e0:=(XU d oM).trans N;have e1:=(XU d oM).trans O;have l:=Xa<|xZ E;have s:=Xa<|bN E;have x:=hr _<|aH E;clear N O;generalize hm:a[q]=F at*;obtain⟨t,f⟩:=F;dsimp only at*;clear hm;obtain⟨ao,Q⟩:=In (I.alloc<|.cells #[.int .i64 t,.int .i64 f] 144) j x;unfold d9 at Q
  (try dsimp only at Q)
  have i:Hs (ly (a.take q) ⟨t,f⟩=(decide (0<=t/\t<64/\0<=f/\f<64)&&!(a.take q).any λL=>L.1==t)):=Xa rfl;generalize P:(a.take q).any (λL=>L.1==t)=tw at*;have B:=Xa P;clear P;obtain⟨y0,y1,y2,y3,y4⟩:=ao
  (try dsimp only at*)
  cases tw with
  |true=>
   have b:Hs (bw a=false):=Xa (by rw[e.o,l.o,i.o];simp);go_wp2;refine cC (v:=.tuple #[.map (some w.1.size),.bool false]) (by simp[results,results186,go_sem, *]) rfl ?_;exact⟨Xb (Xb d _) _,by rw[b.o],λh=>by rw[b.o]at h;cases h⟩
  |false=>
   by_cases y:0<=t/\t<64
   .have A:Hs (Tp true t 0 64=true):=Xa (by simp[Tp,y]);by_cases v:0<=f/\f<64
    .have G:Hs (Tp true f 0 64=true):=Xa (by simp[Tp,v]);have H:Hs (ly (a.take q) ⟨t,f⟩=true):=Xa (by rw[i.o];simp[y,v]);have M:Hs (N3 ⟨t,f⟩=⟨11,t,f,0,0⟩):=Xa<|ye v.1;have W:=Xa<|oD t x;have X:Hs (aK (D.put (.int .i64 t) (fu ⟨11,t,f,0,0⟩)) (a.take<|q+1)):=Xa (by rw[s.o,<-M.o];exact j.put_new (m:=⟨t,f⟩) B);have U:Hs (iP<|a.take (q+1)):=Xa (by rw[s.o];exact o.snoc H);have V:Hs (bw a=gy (a.take<|q+1) (a.drop<|q+1)):=Xa (by rw[e.o,l.o,H.o,Bool.true_and]);clear i B H j o e l s x y v M
     go_wp2_with (first
      |(go_at_call 145;refine(Yp).mono ?_;rintro u r⟨rfl,g⟩;rw[g];clear g r;first|rw[A.o]|rw[G.o])
      |(at_mapUpdate;refine wpList_mapUpdate_own _ rfl _ _ _ 300 rfl 2 66 RC RE ay w.1.size q D rfl ((I.alloc _).alloc _) (by unfold maxLen;omega) _ _ _ rfl rfl W (fu ⟨11,t,f,0,0⟩) [] rfl ?_;intro w3 af ab))
     exact⟨⟨q+1,_,oM,gM,Xa ((Xb (Xb d _) _).grown ab (by simp;omega) λal J=>by cases J;exact aA),Xa af,X,U,V⟩,by simp[RowKit.intOf];omega⟩
    have G:Hs (Tp true f 0 64=false):=Xa (by simp[Tp];omega);have b:Hs (bw a=false):=Xa (by rw[e.o,l.o,i.o];simp;omega);clear i B j o e l s x y v;go_wp2_with (go_at_call 145;refine(Yp).mono ?_;rintro u r⟨rfl,g⟩;rw[g];clear g r;first|rw[A.o]|rw[G.o])
    exact zSQ80
   have A:Hs (Tp true t 0 64=false):=Xa (by simp[Tp];omega);have b:Hs (bw a=false):=Xa (by rw[e.o,l.o,i.o];simp;omega);clear i B j o e l s x y;go_wp2_with (go_at_call 145;refine(Yp).mono ?_;rintro u r⟨rfl,g⟩;rw[g];clear g r;rw[A.o])
   exact zSQ80
 have a1:q=n:=oM;have b:Hs (bw a=true):=Xa (by rw[e.o,mP<|oN z.o];rfl);have Y:Hs (a.take q=a):=Xa<|aW (oN z.o);rw[Y.o]at j o;have T:=Xa<|Gz D I j o;go_wp2_with (go_at_call 204;refine T.mono ?_;rintro u r⟨rfl,aa,S,ad,ac⟩)
 refine cC (v:=.tuple #[.map (some w.1.size),.bool true]) (by simp[results,results186,go_sem, *]) rfl ?_;exact⟨d.grown aa aj (λal J=>by cases J;exact aA),by rw[b.o],λ_=>⟨S,ad.mono oM,ac⟩⟩
end
section
open Go.Maps
theorem yu(h:n<64):(n:Int).tdiv 64=0:=by rw[fY oM];omega
theorem yw(h:n<64):(n:Int).tmod 64=n:=by rw[eW oM];omega
theorem IC(c:m<64)(b:n<18446744073709551616):n|||2^m<18446744073709551616:=by
 have a:2^m<2^64:=lB vY c;exact Nat.or_lt_two_pow (n:=64) (by simpa using b) a
theorem GY:Calls prog 206 #[Hp 64] w λe a=>∃g,e=.returned (.agg #[Hl g 1 1])/\w.1.size<=g/\Below w.1.size w a/\a.cell? (Hk g 0)=some (.int .u64 ((0:Nat):Int))/\∀q,a.frozen? (Hk g q)=false:=by
 have b:=fM (P:=prog) 98 189 (.int .u64 0) 8 underlying98 Qg rfl .i64 .i64 1 oM oM;rw[show((1:Nat):Int)=1 from rfl]at b
 go_in
 go_wp2;refine cC (v:=.agg #[Hl (w.1.size+1) 1 1]) (by simp[results,results206,go_sem]) rfl ?_;exact⟨w.1.size+1,rfl,oM,Xb (Xb (Below.refl _ _) _) _,by simp[madeCells],λq=>sP⟩
theorem Ik(b:k<64)(c:m<18446744073709551616)(a:w.cell? (Hk n 0)=some (.int .u64 m)):Calls prog 210 #[.agg #[Hl n 1 1],Hp k] w λe f=>e=.returned (.bool (m.testBit k))/\Below w.1.size w f:=by
 have g:=yu b;have h:=yw b;have d:n<w.1.size:=aI w _ a;have i:=λx=>oB (Xb (Below.refl w.1.size w) x) a d
 go_in
 go_wp2;go_ret;exact⟨Xl<|ux c,Xb (Below.refl _ _) _⟩
def ie(W:Nat)(b:Wa):Nat:=b.foldl (λa t=>a|||2^t) W
theorem Iq(L:Nat)(ha:Hs (Xf w L B p<|s.map Int.ofNat))(x:Hs (k=s.length))(V:k<=64)(H:Hs (∀t∈s,t<64))(A:m<18446744073709551616)(a:w.cell? (Hk n 0)=some (.int .u64 m))(I:∀q,w.frozen? (Hk n q)=false)(Q:B<=w.1.size)(S:¬(L<=n/\n<B)):
 Calls prog 207 #[.agg #[Hl n 1 1],.slice p k c] w λe l=>e=.returned (.tuple #[])/\w.grownBy l (some n)/\ie m s<18446744073709551616/\l.cell? (Hk n 0)=some (.int .u64 (ie m s))/\∀q,l.frozen? (Hk n q)=false:=by
 go_in
 go_wp2;have M:=ha;have D:n<w.1.size:=aI w _ a
 go_loopw [8] (λu wr=>∃q:Nat,q<=k/\u=Hp q/\Hs (w.grownBy wr<|some n)/\wr.cell? (Hk w.1.size 0)=some (Hl n 1 1)/\Hs (ie m (s.take q)<18446744073709551616)/\wr.cell? (Hk n 0)=some (.int .u64 (ie m<|s.take q))/\Hs (∀b,wr.frozen? (Hk n b)=false)) λu _=>k-(RowKit.intOf u).toNat
 case atStart=>exact⟨0,aN,rfl,Xa<|bW _ _ _,sP,Xa (by simpa [ie]using A),by rw[bP _ _ _ D];simpa [ie]using a,Xa λb=>by rw[World.frozen?_alloc_old _ _ _ (by show n≠_;omega)];exact I b⟩
 obtain⟨q,hq,rfl,f,G,d,a,h⟩:=hrel;by_cases U:q<k
 .have j:q<s.length:=oN x.o
  obtain⟨r,K,rfl,R,v⟩:=ha q (by simpa using j);have i:=(Xc<|f.5 r oM λe=>by injection e with e;omega).trans v;rw[cM]at i;have g:=H _<|aH j;have o:Hs (ie m (s.take<|q+1)=ie m (s.take q)|||2^s[q]):=Xa (by
   unfold ie;rw[bN j,dT];rfl)
  have X:=h 0;generalize s[q]=t at*;have O:=yu g;have P:=yw g;generalize C:ie m (s.take q)=z at*;have N:Cl wr r (K+q) (Hp t):=i;go_wp2;go_region;go_wp2;rw[tZ g d.o];have T:=f.4;have J:wr.grownBy (wr.setCell (Hk n 0) (.int .u64 ((z|||2^t:Nat):Int))).drew (some n):=⟨rfl,rfl,rfl,by simp[World.setCell,World.drew],λb _ F=>Below.heap_setCell _ _ _ _ λe=>F<|by rw[e]⟩;refine⟨⟨q+1,oM,gM,Xa (f.andThen J λY E=>by cases E;exact aZ rfl),?_,Xa ?_,?_,Xa ?_⟩,by simp[RowKit.intOf];omega⟩;·exact(bH wr (Hk n 0) (Hk w.1.size 0) _ (by show n≠w.1.size;omega)).trans G
  .rw[o.o];exact IC g d
  .rw[o.o];exact fQ _ _ _ a
  intro b;show(wr.setCell _ _).frozen? _=false;rw[eX];exact h b
 have W:q=k:=oM;have y:Hs (s.take q=s):=Xa<|aW (oN x.o);rw[y.o]at a d;go_wp2
 go_end0
 exact⟨rfl,f,d,a,h⟩
end
end Go.Proofs.YtcfdhbigppockaaGreatDoor
