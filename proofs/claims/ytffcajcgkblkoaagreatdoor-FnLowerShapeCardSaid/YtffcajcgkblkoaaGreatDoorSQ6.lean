import Derived.Maps.Views
import Derived.Maps.OwnOps
import Derived.Maps.RangeWalk
import Derived.Lib.SlKeysI
import Derived.Laws.IdiomRangeMap
import Derived.Shelf.Lay
import Derived.Shelf.SlIterI.Nil
import Derived.Shelf.SortM.Plain
import Derived.Shelf.SortM.SortNone
import Derived.Ground.GgzProg
import Derived.Ground.SlgmProg
import Derived.Test.YtffcajcgkblkoaaGreatDoorDT2
import Derived.Test.YtffcajcgkblkoaaGreatDoorLO1
namespace Go.Proofs.YtffcajcgkblkoaaGreatDoor
set_option maxHeartbeats 8000000
set_option maxRecDepth 100000
open Go.RowKit Go.Proofs.Tryz Go.Shelf
variable{t T z:Int}{l:List Int}{y:List Value}{x:List Xe}{n m k B g i j c:Nat}{Z:Nat->Nat×Nat×Nat}{h:Nat->Value}{p P:Option Addr}{a:Value}{w v u:World}
section
open Go.Maps
def am(v:Value):Option (DataW Unit×List MemPlace):=match v with
 |.agg a=>match a.toList with
  |[.int .i64 o,.int .i64 d,.int .i64 x,.int .i64 y,.int .i64 i]=>some (.agg [.lit (.int .i64 o),.lit (.int .i64 d),.lit (.int .i64 x),.lit (.int .i64 y),.lit (.int .i64 i)],[])
  |_=>none
 |_=>none
def dx(x:Yg):DataW Unit:=.agg [.lit (.int .i64 x.op),.lit (.int .i64 x.dst),.lit (.int .i64 x.a),.lit (.int .i64 x.b),.lit (.int .i64 x.imm)]
def cu(x:Yg):Value:=.agg #[.int .i64 x.op,.int .i64 x.dst,.int .i64 x.a,.int .i64 x.b,.int .i64 x.imm]
theorem GC(x:Yg):am (cu x)=some (dx x,[]):=rfl
theorem iT{y:DataW Unit×List MemPlace}(h:am a=some y):∃x,a=cu x/\y=(dx x,[]):=by
 unfold am at h;split at h
 .rename_i c;split at h
  .rename_i o d p q i b;cases h;refine⟨⟨o,d,p,q,i⟩,?_,rfl⟩;cases c;simp only at b;subst b;rfl
  cases h
 cases h
theorem pd{x y:Yg}(h:dx x=dx y):x=y:=by
 let⟨a,b,c,g,j⟩:=x;let⟨d,e,f,i,k⟩:=y;simp only[dx,kC,List.cons.injEq,DataW.lit.injEq,Lit.int.injEq,true_and,and_true]at h;obtain⟨rfl,rfl,rfl,rfl,rfl⟩:=h;rfl
theorem Nk:Keyed prog 2:=int_keyed underlying2
theorem jt(t:Int)(h:-9223372036854775808<=t/\t<=9223372036854775807):keyOf prog 2 (.int .i64 t)=some (.int .i64 t):=keyOf_int_mk underlying2<|WalkArith.wf_i64 h
theorem ij(t:Int):WideAt.IsKeyLit (.int .i64 t):=by simp[WideAt.IsKeyLit]
structure an(D:DataW Unit)(L:List Mv):Prop where
 tidy:Tidy D
 keys:∀k,has D k=true↔∃m∈L,k=.int .i64 m.to
 at_:∀m∈L,∀z,D.atKey (.int .i64 m.to) z=dx (Io m)
 size:size D=L.length
theorem an.nil:an (.map []) []:=⟨tidy_empty,λk=>by simp[has],(λm a=>by cases a),rfl⟩
theorem an.has_iff{D:DataW Unit}{L:List Mv}(h:an D L)(t:Int):has D (.int .i64 t)=L.any (λm=>m.to==t):=by
 cases hb:L.any (λm=>m.to==t)with
 |true=>
  obtain⟨m,a,e⟩:=List.any_eq_true.1 hb;exact(h.keys _).2 ⟨m,a,by rw[show m.to=t by simpa using e]⟩
 |false=>
  cases hh:has D (.int .i64 t)with
  |false=>rfl
  |true=>
   obtain⟨m,a,e⟩:=(h.keys _).1 hh;have:=List.any_eq_false.1 hb m a;simp only[Lit.int.injEq,true_and]at e;simp[e]at this
theorem an.put_new{D:DataW Unit}{L:List Mv}(h:an D L){m:Mv}(a:L.any (λq=>q.to==m.to)=false):an (D.put (.int .i64 m.to) (dx<|Io m)) (L++[m]):=by
 have b:∀q∈L,q.to≠m.to:=λq hq e=>by have:=List.any_eq_false.1 a q hq;simp[e]at this
 refine⟨h.tidy.put (ij _) _,λk=>?_,λq hq z=>?_,?_⟩
 .by_cases e:k=.int .i64 m.to
  .subst e;exact⟨λ_=>⟨m,sP,rfl⟩,λ_=>has_put_same h.tidy.isMap (ij _) _⟩
  rw[has_put_other e,h.keys k];constructor;·rintro⟨q,hq,e2⟩;exact⟨q,dD _ hq,e2⟩
  rintro⟨q,hq,e2⟩;rcases bU.1 hq with hq|hq;·exact⟨q,hq,e2⟩
  rw[cS.1 hq]at e2;exact absurd e2 e
 .rcases bU.1 hq with hq|hq
  .rw[atKey_put_other λe=>b q hq<|by simpa using e];exact h.at_ q hq z
  rw[cS.1 hq];exact atKey_put_same h.tidy.isMap (ij _) _ _
 rw[size_put h.tidy,h.has_iff,a,h.size];simp
theorem an.del{D:DataW Unit}{L:List Mv}(h:an D L)(g:(ah L).Nodup)(t:Int):an (D.del<|.int .i64 t) (d6 L t):=by
 have b:∀q,q∈d6 L t↔q∈L/\q.to≠t:=λq=>by simp[d6]
 refine⟨h.tidy.del _,λk=>?_,λq hq z=>?_,?_⟩
 .by_cases e:k=.int .i64 t
  .subst e;rw[has_del_same];constructor;·intro h;cases h
   rintro⟨q,hq,e2⟩;exact absurd (by simpa using e2.symm) ((b q).1 hq).2
  rw[has_del_other e,h.keys k];constructor;·rintro⟨q,hq,e2⟩;exact⟨q,(b q).2 ⟨hq,λe3=>e<|by rw[e2,e3]⟩,e2⟩
  rintro⟨q,hq,e2⟩;exact⟨q,((b q).1 hq).1,e2⟩
 .obtain⟨c,d⟩:=(b q).1 hq;rw[atKey_del_other λe=>d<|by simpa using e];exact h.at_ q c z
 have j:=size_del (k:=.int .i64 t) h.tidy
 rw[h.has_iff,h.size]at j;have n:∀(a:List Mv),(ah a).Nodup->(d6 a t).length+(if a.any (λm=>m.to==t)then 1 else 0)=a.length:=by
  intro a
  induction a with
  |nil=>intro _;rfl
  |cons m a l=>
   intro f;obtain⟨c,d⟩:=fL.1 f;have:=l d;unfold d6 at*;by_cases e:m.to=t
   .have i:a.any (λm=>m.to==t)=false:=List.any_eq_false.2 (λq hq=>by
     have:q.to≠t:=λe2=>c<|by show m.to∈ah a;rw[e,<-e2];exact aY.2 ⟨q,hq,rfl⟩
     simpa using this)
    rw[List.filter_cons_of_neg (by simp[e]),List.any_cons,show(m.to==t)=true by simpa using e,Bool.true_or,aU rfl,bA];rw[i]at this;simpa using this
   rw[List.filter_cons_of_pos (by simpa using e),List.any_cons,show(m.to==t)=false by simpa using e,jV,bA,bA];omega
 have:=n L g;omega
def jq(L:List Mv)(t:Int):List Mv:=L.map λm=>if m.to=t then ⟨m.to,-1⟩else m
theorem an.put_old{D:DataW Unit}{L:List Mv}(h:an D L)(b:L.any (λm=>m.to==t)=true):an (D.put (.int .i64 t) (dx ⟨13,t,0,0,0⟩)) (jq L t):=by
 have c:∀m:Mv,(if m.to=t then (⟨m.to,-1⟩:Mv)else m).to=m.to:=λm=>by split<;>rfl
 refine⟨h.tidy.put (ij _) _,λk=>?_,λq hq z=>?_,?_⟩
 .have d:(∃m∈jq L t,k=.int .i64 m.to)↔∃m∈L,k=.int .i64 m.to:=by
   constructor
   .rintro⟨m,a,e⟩;obtain⟨q,hq,rfl⟩:=aY.1 a;exact⟨q,hq,by rw[e,c]⟩
   rintro⟨m,a,e⟩;exact⟨_,aY.2 ⟨m,a,rfl⟩,by rw[c];exact e⟩
  rw[d];by_cases e:k=.int .i64 t
  .subst e;rw[has_put_same h.tidy.isMap<|ij _,<-h.keys,h.has_iff,b]
  rw[has_put_other e,h.keys]
 .obtain⟨m,a,rfl⟩:=aY.1 hq;by_cases e:m.to=t
  .rw[aU e];show(D.put (.int .i64 t) _).atKey (.int .i64 m.to) z=_;rw[e,atKey_put_same h.tidy.isMap<|ij _];rfl
  rw[aM e,atKey_put_other λe2=>e<|by simpa using e2];exact h.at_ m a z
 rw[size_put h.tidy,h.has_iff,b,aU rfl,h.size];simp[jq]
theorem an.perm{D:DataW Unit}{L:List Mv}(h:an D L)(l:(ah L).Nodup)(k:∀a,D=.map a->∀p∈a,WideAt.IsKeyLit p.1):(intKeys D).Perm (ah L):=by
 obtain⟨a,rfl,q⟩:=h.tidy;have d:∀p∈a,∃m∈L,p.1=.int .i64 m.to:=λp c=>(h.keys p.1).1 (by
  rw[has_eq];exact List.any_eq_true.2 ⟨p,c,WideAt.sameKey_self<|k a rfl p c⟩)
 have n:(a.map λp=>Go.intOf p.1).Nodup:=by
  unfold List.Nodup;rw[List.pairwise_map];refine q.imp_of_mem λ{i b} ha j o e=>?_;obtain⟨m1,_,e1⟩:=d i ha;obtain⟨m2,_,e2⟩:=d b j;rw[e1,e2]at e;exact o<|by rw[e1,e2];exact fI (Lit.int .i64) e
 refine(List.perm_ext_iff_of_nodup n l).2 λt=>?_;constructor
 .intro g;obtain⟨p,c,rfl⟩:=aY.1 g;obtain⟨m,f,e⟩:=d p c;rw[e];exact aY.2 ⟨m,f,rfl⟩
 intro g;obtain⟨m,f,rfl⟩:=aY.1 g;have:=(h.keys<|.int .i64 m.to).2 ⟨m,f,rfl⟩;rw[has_eq]at this;obtain⟨p,c,e⟩:=List.any_eq_true.1 this;refine aY.2 ⟨p,c,?_⟩;rw[WideAt.sameKey_eq e];rfl
end
section
open Go.Maps
theorem Nl(w:World):(zeroValue 48).run prog w=.ok (cu ⟨0,0,0,0,0⟩) w:=kR
theorem GB{b:Nat}{D:DataW Unit}{L:List Mv}(h:w.ownsMap prog 2 am b n D)(c:an D L)(t:Int)(e:-9223372036854775808<=t/\t<=9223372036854775807) :
 ∃x,(Instr.lookup 217 (.map (some b)) (.int .i64 t) true).run prog w=.ok (.tuple #[cu x,.bool (L.any λm=>m.to==t)]) w:=by
 obtain⟨i,g,d,F,_,a⟩:=h;rcases Maps.fit_look true Nk underlying217 (Nl w) d F (jt t e)with⟨hrun,_,hz⟩|⟨e0,y,_,_,hrun,hR,hz,_⟩
 .refine⟨⟨0,0,0,0,0⟩,?_⟩;have:has D (.int .i64 t)=false:=has_false_of_atKey (by rw[a];exact hz);rw[c.has_iff]at this;rw[this];exact hrun
 obtain⟨x,f,rfl⟩:=iT hR;refine⟨x,?_⟩;have:has D (.int .i64 t)=true:=has_true_of_atKey (y:=dx x) (by rw[a];exact hz);rw[c.has_iff]at this;rw[this,<-f];exact hrun
theorem vm{b:Nat}{D:DataW Unit}{L:List Mv}(h:w.ownsMap prog 2 am b n D)(e:an D L){m:Mv}(d:m∈L)(g:-9223372036854775808<=m.to/\m.to<=9223372036854775807) :
 (Instr.lookup 217 (.map (some b)) (.int .i64 m.to) false).run prog w=.ok (cu<|Io m) w:=by
 let⟨v,i,f,a⟩:=h.lookup Nk underlying217 (Nl w) (GC _) (jt m.to g);rw[e.at_ m d]at a;obtain⟨x,rfl,c⟩:=iT a;simp only[jC]at c;rw[f,pd c.1]
theorem Fy(t:Int)(x:Yg)(W:World):Calls prog 138 (#[.int .i64 t,cu x]++#[]) W λe a=>e=.returned (.bool (x.a==t))/\W.grownBy a none:=by
 unfold cu
 go_in
 go_wp2;go_ret;exact⟨rfl,bW _ _ _⟩
def en(L:List Mv)(left:Lit->Bool):List Mv:=L.filter λm=>left (.int .i64 m.to)||(m.to != m.frm)
theorem Fw{L:List Mv}{left:Lit->Bool}(h:∀m∈L,left (.int .i64 m.to)=true):en L left=L:=List.filter_eq_self.2 λm a=>by rw[h m a];rfl
theorem FJ{L:List Mv}{left:Lit->Bool}(h:∀k,left k=false):en L left=dg L:=by
 unfold en dg;congr 1;funext m;rw[h];rfl
theorem lf{left:Lit->Bool}(h:T≠t):(left (.int .i64 T)&&!(Lit.int .i64 T).sameKey (.int .i64 t))=left (.int .i64 T):=by
 rw[sameKey_ne λe=>h<|by simpa using e];simp
theorem oV{left:Lit->Bool}:(left (.int .i64 t)&&!(Lit.int .i64 t).sameKey (.int .i64 t))=false:=by
 rw[WideAt.sameKey_self<|ij t];simp
theorem FD{L:List Mv}(g:(ah L).Nodup){left:Lit->Bool}{m:Mv}(f:m∈L)(h:m.to≠m.frm):en L (λz=>left z&&!z.sameKey (.int .i64 m.to))=en L left:=by
 unfold en;refine lW λq hq=>?_;by_cases e:q.to=m.to
 .have k:q=m:=by
   obtain⟨i,b,rfl⟩:=bR hq;obtain⟨j,c,rfl⟩:=bR f;have d:=gY.1 (show(L.map (·.to)).Pairwise (·≠·)from g);rcases mA i j with a|a|a;·exact(d i j (by simpa using b) (by simpa using c) a (by simp[e])).elim
   .subst a;rfl
   exact(d j i (by simpa using c) (by simpa using b) a (by simp[e])).elim
  subst k;have:(q.to != q.frm)=true:=by simpa using h
  rw[this,Bool.or_true,Bool.or_true]
 dsimp only;rw[lf e]
theorem FB{L:List Mv}(h:(ah L).Nodup){left:Lit->Bool}{m:Mv}(g:m∈L)(f:m.to=m.frm):en L (λz=>left z&&!z.sameKey (.int .i64 m.to))=d6 (en L left) m.to:=by
 unfold en d6;rw[List.filter_filter];refine lW λq hq=>?_;by_cases e:q.to=m.to
 .have k:q=m:=by
   obtain⟨i,b,rfl⟩:=bR hq;obtain⟨j,c,rfl⟩:=bR g;have d:=gY.1 (show(L.map (·.to)).Pairwise (·≠·)from h);rcases mA i j with a|a|a;·exact(d i j (by simpa using b) (by simpa using c) a (by simp[e])).elim
   .subst a;rfl
   exact(d j i (by simpa using c) (by simpa using b) a (by simp[e])).elim
  subst k;dsimp only;rw[oV,show(q.to != q.frm)=false by simpa using f];simp
 dsimp only;rw[lf e,show(q.to != m.to)=true by simpa using e];simp
theorem Fv{L:List Mv}(a:(ah L).Nodup)(left:Lit->Bool):(ah<|en L left).Nodup:=a.sublist<|List.filter_sublist.map _
theorem vx{m:Mv}(h:0<=m.frm):Io m=⟨11,m.to,m.frm,0,0⟩:=aM oM
theorem Fm(b n:Nat)(D:DataW Unit)(L:List Mv)(w:World)(aa:w.ownsMap prog 2 am b n D)(K:Hs (an D L))(o:Hs (ew L)) :
 Calls prog 137 #[.map (some b),.func (.func 138) #[] #[]] w λg O=>g=.returned (.tuple #[])/\w.grownBy O (some b)/\∃C,O.ownsMap prog 2 am b n C/\an C (dg L):=by
 have eg:∀args w,(callFunc 138 args).run prog w=.ok (.enter 138 args) w:=enters_of func138 kR rfl
 go_in
 go_wp2_with (first
  |(at_range;refine wpList_range_own _ rfl _ 217 rfl 2 48 Nk underlying217 am b n D rfl aa ?_;intro w0 N H ab)
  |go_in)
 go_frame
 go_loopw [8] (λ_ wr=>∃(left:Lit->Bool)(E:Nat)(k:DataW Unit),wr.ranges prog 2 am b w.heap.size n k left E/\w.grownBy wr (some b)/\Hs (an k<|en L left))
  (λ_ wr=>wr.rangeLeft b w.heap.size)
 case atStart=>exact⟨_,_,_,N,H.but _,Xa<|by rw[Fw λm Y=>(K.keys _).2 ⟨m,Y,rfl⟩];exact K⟩
 clear N H ab;obtain⟨left,E,k,q,I,f⟩:=hrel
 go_wp2_with (first
  |(at_next;refine wpList_next_ranges _ rfl _ rfl 2 Nk am (Value.int .i64) cu (λax kl p=>by obtain⟨x,rfl,_⟩:=Maps.keyOf_int_inv underlying2 p;exact⟨x,rfl⟩) (λay az t=>by obtain⟨x,rfl,_⟩:=iT t;exact⟨x,rfl⟩) b w.heap.size n _ _ _ rfl q ?_ ?_)
  |go_in)
 .intro _ V;go_wp2
  go_end0
  exact⟨rfl,I,k,q.owns,by rw[<-FJ V];exact f⟩
 intro x c kl yd yp P R p ao t y r X U aq af
 have J:=I.andThen U (λj a=>by cases a;exact bC<|aA _);obtain⟨x',ex,rfl,ar⟩:=Maps.keyOf_int_inv underlying2 p;cases ex;obtain⟨l,v,F⟩:=iT t;obtain⟨rfl,rfl⟩:=Prod.mk.inj F;have T:l=c:=by
  obtain⟨a1,a2,a3,a4,a5⟩:=c;obtain⟨b1,b2,b3,b4,b5⟩:=l;simp only[cu,Value.agg.injEq]at v;have:=fI Array.toList v;simp at this;obtain⟨rfl,rfl,rfl,rfl,rfl⟩:=this;rfl
 subst T;obtain⟨m,M,A⟩:=(f.keys<|.int .i64 x).1 (has_true_of_atKey (y:=dx l) y);have Z:x=m.to:=by simpa using A
 have G:l=Io m:=pd (by rw[<-f.at_ m M (.lit (.bool true)),<-A];exact(y _).symm);have z:=(fG.1 M).1;have aj:=o.rng m z;rw[vx oM]at G;subst Z G;unfold cu at*;clear A F v t y;dsimp only at*;have ad:=r.owns.lt;have ap:=r.lt;have d:=λW=>Fy m.to ⟨11,m.to,m.frm,0,0⟩ W;unfold cu at d;dsimp only at d;by_cases e:m.frm=m.to
 .have u:=Xa<|FB o.nd (left:=left) z e.symm;have h:(m.frm==m.to)=true:=by simpa using e
  rw[h]at d;clear h e
  go_wp2_with (first
   |(go_at_fn 138;refine(d _).mono ?_;rintro g w2⟨rfl,i⟩;have s:=(r.alloc<|.cells #[.int .i64 11,.int .i64 m.to,.int .i64 m.frm,.int .i64 0,.int .i64 0] 48).kept i sP sP)
   |(at_delete;refine wpList_delete_ranges _ rfl _ _ 217 2 rfl 48 Nk underlying217 am b w.heap.size n _ _ _ rfl s _ _ rfl p ?_;intro w3 S B al ac;go_frame)
   |go_in)
  rw[strike_twice]at B;have Q:=Xa<|f.del (Fv o.nd left) m.to
  go_roundw
  case rel=>exact⟨_,S,_,B,((J.andThen (bW P _ none) λj a=>by cases a).andThen i λj a=>by cases a).andThen ac.grown (λj a=>by cases a;exact aZ rfl),Xa<|by rw[u.o];exact Q⟩
  rw[B.left_eq,q.left_eq];omega
 have u:=Xa (FD o.nd (left:=left) z λg=>e g.symm);have h:(m.frm==m.to)=false:=by simpa using e
 rw[h]at d;clear h e
 go_wp2_with (first
  |(go_at_fn 138;refine(d _).mono ?_;rintro g w2⟨rfl,i⟩)
  |go_in)
 have s:=(r.alloc<|.cells #[.int .i64 11,.int .i64 m.to,.int .i64 m.frm,.int .i64 0,.int .i64 0] 48).kept i sP sP
 go_roundw
 case rel=>exact⟨_,R,_,s,(J.andThen (bW P _ none) λj a=>by cases a).andThen i (λj a=>by cases a),Xa<|by rw[u.o];exact f⟩
 rw[s.left_eq,q.left_eq];exact X
end
section
open Go.Maps
theorem Nw:prog.underlying 217=some (.map 2 48):=underlying217
theorem Fp(M:Option Addr)(n c:Nat)(a:List Mv)(Z K:Nat)(w:World)(ha:Hs (pF w Z K M a))(x:Hs (n=a.length))(hn:n<=1048576)(hB:K<=w.heap.size)(hr:Hs (∀C∈a,-9223372036854775808<=C.to/\C.to<=9223372036854775807)) :
 Calls prog 128 #[.slice M n c] w λr R=>Below w.heap.size w R/\r=.returned (.tuple #[.map (some w.heap.size),.bool (cy a)])/\(cy a=true->∃D,R.ownsMap prog 2 am w.heap.size 64 D/\an D (dg a)):=by
 have ax:=@run_makeMap prog;by_cases aa:64<n
 .have A:Hs (cy a=false):=Xa (by unfold cy;have:=x.o;simp;intro h;omega)
  go_in
  go_wp2;refine cC (v:=.tuple #[.map (some w.heap.size),.bool false]) (by simp[results,results128,go_sem, *]) rfl ?_;exact⟨Xb (Below.refl _ _) _,by rw[A.o],λh=>by rw[A.o]at h;cases h⟩
 have A:Hs (cy a=fh [] a):=Xa (by unfold cy;have:=x.o;simp;omega);have ay:n<=64:=oM;clear aa
 go_in
 go_wp2
 go_loopw [16] (λI wr=>∃(q:Nat)(D:DataW Unit),q<=n/\I=.int .i64 q/\Hs (Below w.heap.size w wr)/\Hs (wr.ownsMap prog 2 am w.heap.size q D)/\Hs (an D<|a.take q)/\Hs (ew<|a.take q)/\Hs (cy a=fh (a.take q) (a.drop q))) λI _=>n-(RowKit.intOf I).toNat
 case atStart=>exact⟨0,.map [],aN _,rfl,Xa<|Xb (Below.refl _ _) _,Xa<|World.ownsMap_made _ _ _ _,Xa (by rw[lK];exact an.nil),Xa (by rw[lK];exact⟨by simp[ah],sP⟩),Xa<|by rw[A.o];rfl⟩
 obtain⟨q,D,hq,rfl,e,G,k,m,g⟩:=hrel;have al:=e.size;by_cases ar:q<n
 .have B:q<a.length:=oN x.o;obtain⟨b,a0,rfl,aq,N,O⟩:=ha q B;have e0:=(XU e oM).trans N;have e1:=(XU e oM).trans O;have l:=Xa<|FO B;have p:=Xa<|bN B;have u:=hr _<|aH B;clear N O;generalize hm:a[q]=C at*;obtain⟨t,f⟩:=C;dsimp only at*;clear hm;obtain⟨ap,Q⟩:=GB (G.alloc<|.cells #[.int .i64 t,.int .i64 f] 192) k t u;unfold cu at Q
  (try dsimp only at Q)
  have j:Hs (i9 (a.take q) ⟨t,f⟩=(decide (0<=t/\t<64/\0<=f/\f<64)&&!(a.take q).any λJ=>J.to==t)):=Xa rfl;generalize P:(a.take q).any (λJ=>J.to==t)=tw at*;have z:=Xa P;clear P;obtain⟨y0,y1,y2,y3,y4⟩:=ap
  (try dsimp only at*)
  cases tw with
  |true=>
   have d:Hs (cy a=false):=Xa (by rw[g.o,l.o,j.o];simp);go_wp2;refine cC (v:=.tuple #[.map (some w.heap.size),.bool false]) (by simp[results,results128,go_sem, *]) rfl ?_;exact⟨Xb (Xb e _) _,by rw[d.o],λh=>by rw[d.o]at h;cases h⟩
  |false=>
   by_cases v:0<=t/\t<64
   .have y:Hs (Tp true t 0 64=true):=Xa (by simp[Tp,v]);by_cases s:0<=f/\f<64
    .have E:Hs (Tp true f 0 64=true):=Xa (by simp[Tp,s]);have F:Hs (i9 (a.take q) ⟨t,f⟩=true):=Xa (by rw[j.o];simp[v,s]);have L:Hs (Io ⟨t,f⟩=⟨11,t,f,0,0⟩):=Xa<|vx s.1;have W:=Xa<|jt t u;have X:Hs (an (D.put (.int .i64 t) (dx ⟨11,t,f,0,0⟩)) (a.take<|q+1)):=Xa (by rw[p.o,<-L.o];exact k.put_new (m:=⟨t,f⟩) z);have U:Hs (ew<|a.take (q+1)):=Xa (by rw[p.o];exact m.snoc F);have V:Hs (cy a=fh (a.take<|q+1) (a.drop<|q+1)):=Xa (by rw[g.o,l.o,F.o,Bool.true_and]);clear j z F k m g l p u v s L
     go_wp2_with (first
      |(go_at_call 113;refine(Yp _ _ _ _ _).mono ?_;rintro r o⟨rfl,i⟩;rw[i];clear i o;first|rw[y.o]|rw[E.o])
      |(at_mapUpdate;refine wpList_mapUpdate_own _ rfl _ _ _ 217 rfl 2 48 Nk Nw am w.heap.size q D rfl ((G.alloc _).alloc _) (by unfold maxLen;omega) _ _ _ rfl rfl W (dx ⟨11,t,f,0,0⟩) [] rfl ?_;intro w3 aj ac))
     exact⟨⟨q+1,_,oM,gM,Xa ((Xb (Xb e _) _).grown ac (by simp;omega) λao H=>by cases H;exact aA _),Xa aj,X,U,V⟩,by simp[RowKit.intOf];omega⟩
    have E:Hs (Tp true f 0 64=false):=Xa (by simp[Tp];omega);have d:Hs (cy a=false):=Xa (by rw[g.o,l.o,j.o];simp;omega);clear j z k m g l p u v s;go_wp2_with (go_at_call 113;refine(Yp _ _ _ _ _).mono ?_;rintro r o⟨rfl,i⟩;rw[i];clear i o;first|rw[y.o]|rw[E.o])
    refine cC (v:=.tuple #[.map (some w.heap.size),.bool false]) (by simp[results,results128,go_sem, *]) rfl ?_;exact⟨Xb (Xb e _) _,by rw[d.o],λh=>by rw[d.o]at h;cases h⟩
   have y:Hs (Tp true t 0 64=false):=Xa (by simp[Tp];omega);have d:Hs (cy a=false):=Xa (by rw[g.o,l.o,j.o];simp;omega);clear j z k m g l p u v;go_wp2_with (go_at_call 113;refine(Yp _ _ _ _ _).mono ?_;rintro r o⟨rfl,i⟩;rw[i];clear i o;rw[y.o])
   refine cC (v:=.tuple #[.map (some w.heap.size),.bool false]) (by simp[results,results128,go_sem, *]) rfl ?_;exact⟨Xb (Xb e _) _,by rw[d.o],λh=>by rw[d.o]at h;cases h⟩
 have az:q=n:=oM;have d:Hs (cy a=true):=Xa (by rw[g.o,mP<|oN x.o];rfl);have Y:Hs (a.take q=a):=Xa<|aW (oN x.o);rw[Y.o]at k m;have T:=Xa<|Fm w.heap.size q D a wr G k m;go_wp2_with (go_at_call 137;refine T.mono ?_;rintro r o⟨rfl,ab,S,af,ad⟩)
 refine cC (v:=.tuple #[.map (some w.heap.size),.bool true]) (by simp[results,results128,go_sem, *]) rfl ?_;exact⟨e.grown ab al (λao H=>by cases H;exact aA _),by rw[d.o],λ_=>⟨S,af.mono oM,ad⟩⟩
end
section
open Go.Maps
theorem vI(h:n<64):(n:Int).tdiv 64=0:=by rw[fY oM];omega
theorem vK(h:n<64):(n:Int).tmod 64=n:=by rw[eW oM];omega
theorem GV(c:m<64)(b:n<18446744073709551616):n|||2^m<18446744073709551616:=by
 have a:2^m<2^64:=lB vZ c;exact Nat.or_lt_two_pow (n:=64) (by simpa using b) a
theorem FN(w:World):Calls prog 139 #[Hp 64] w λe a=>∃g,e=.returned (.agg #[Hl g 1 1])/\w.heap.size<=g/\Below w.heap.size w a/\a.cell? (Hk g 0)=some (.int .u64 ((0:Nat):Int))/\∀q,a.frozen? (Hk g q)=false:=by
 have b:=fM (P:=prog) 57 154 (.int .u64 0) 8 underlying57 Nn rfl .i64 .i64 1 oM oM;rw[show((1:Nat):Int)=1 from rfl]at b
 go_in
 go_wp2;refine cC (v:=.agg #[Hl (w.heap.size+1) 1 1]) (by simp[results,results139,go_sem]) rfl ?_;exact⟨w.heap.size+1,rfl,oM,Xb (Xb (Below.refl _ _) _) _,by simp[madeCells],λq=>sP⟩
theorem Gy(g W t:Nat)(w:World)(b:t<64)(c:W<18446744073709551616)(a:w.cell? (Hk g 0)=some (.int .u64 W)):Calls prog 143 #[.agg #[Hl g 1 1],Hp t] w λe f=>e=.returned (.bool (W.testBit t))/\Below w.heap.size w f:=by
 have h:=vI b;have i:=vK b;have d:g<w.heap.size:=aI w _ a;have j:=λx=>oB (Xb (Below.refl w.heap.size w) x) a d
 go_in
 go_wp2;go_ret;exact⟨Xl<|rf c,Xb (Below.refl _ _) _⟩
def d7(W:Nat)(b:List Nat):Nat:=b.foldl (λa t=>a|||2^t) W
theorem GE(g W n c:Nat)(r:Option Addr)(a:List Nat)(L B:Nat)(w:World)(ha:Hs (Xf w L B r<|a.map Int.ofNat))(v:Hs (n=a.length))(U:n<=64)(G:Hs (∀t∈a,t<64))(z:W<18446744073709551616)(d:w.cell? (Hk g 0)=some (.int .u64 W))(H:∀q,w.frozen? (Hk g q)=false)(P:B<=w.heap.size)(R:¬(L<=g/\g<B)) :
 Calls prog 140 #[.agg #[Hl g 1 1],.slice r n c] w λe o=>e=.returned (.tuple #[])/\w.grownBy o (some g)/\d7 W a<18446744073709551616/\o.cell? (Hk g 0)=some (.int .u64 (d7 W a))/\∀q,o.frozen? (Hk g q)=false:=by
 go_in
 go_wp2;have K:=ha;have C:g<w.heap.size:=aI w _ d
 go_loopw [8] (λu wr=>∃q:Nat,q<=n/\u=Hp q/\Hs (w.grownBy wr<|some g)/\wr.cell? (Hk w.heap.size 0)=some (Hl g 1 1)/\Hs (d7 W (a.take q)<18446744073709551616)/\wr.cell? (Hk g 0)=some (.int .u64 (d7 W<|a.take q))/\Hs (∀k,wr.frozen? (Hk g k)=false)) λu _=>n-(RowKit.intOf u).toNat
 case atStart=>exact⟨0,aN _,rfl,Xa<|bW _ _ _,sP,Xa (by simpa [d7]using z),by rw[bP _ _ _ C];simpa [d7]using d,Xa λk=>by rw[World.frozen?_alloc_old _ _ _ (by show g≠_;omega)];exact H k⟩
 obtain⟨q,hq,rfl,h,F,f,d,j⟩:=hrel;by_cases T:q<n
 .have m:q<a.length:=oN v.o
  obtain⟨b,J,rfl,Q,s⟩:=ha q (by simpa using m);have l:=(Xc<|h.block b oM λe=>by injection e with e;omega).trans s;rw[cM]at l;have i:=G _<|aH m;have p:Hs (d7 W (a.take<|q+1)=d7 W (a.take q)|||2^a[q]):=Xa (by
   unfold d7;rw[bN m,dT];rfl)
  have X:=j 0;generalize a[q]=t at*;have N:=vI i;have O:=vK i;generalize A:d7 W (a.take q)=y at*;have M:Cl wr b (J+q) (Hp t):=l;go_wp2;go_region;go_wp2;rw[qI i f.o];have S:=h.size;have I:wr.grownBy (wr.setCell (Hk g 0) (.int .u64 ((y|||2^t:Nat):Int))).drew (some g):=⟨rfl,rfl,rfl,by simp[World.setCell,World.drew],λk _ E=>Below.heap_setCell _ _ _ _ λe=>E<|by rw[e]⟩;refine⟨⟨q+1,oM,gM,Xa (h.andThen I λY D=>by cases D;exact aZ rfl),?_,Xa ?_,?_,Xa ?_⟩,by simp[RowKit.intOf];omega⟩;·exact(bH wr (Hk g 0) (Hk w.heap.size 0) _ (by show g≠w.heap.size;omega)).trans F
  .rw[p.o];exact GV i f
  .rw[p.o];exact fQ _ _ _ d
  intro k;show(wr.setCell _ _).frozen? _=false;rw[eX];exact j k
 have V:q=n:=oM;have x:Hs (a.take q=a):=Xa<|aW (oN v.o);rw[x.o]at d f;go_wp2
 go_end0
 exact⟨rfl,h,f,d,j⟩
end
section
open Go.Maps Go.Sort
shelf_lay_g SlLaysZI.n7 Ggz 7 at Tryz 142 as keysA
shelf_lay_g SlLaysZI.n6 Ggz 6 at Tryz 141 as sortedA
shelf_lay_g SlLaysM.n5 Slgm 5 at Tryz 146 as sortA
theorem GS(m:Nat):AnyZI.SortsIn prog sortedA_ren Fence.wide m :=
 ⟨λblk d a e W hH b c=>bM.2<|AnyM.slices_Sort_int sortA blk d a e W hH b c,
  λp a W=>bM.2<|AnyM.slices_Sort_int_none sortA p a W⟩
theorem uZ(a:Option Nat)(W:World):Calls prog 142 #[.map a] W λe b=>e=.returned (.func (.func 147) #[] #[.pointer (some ⟨W.heap.size,0,none⟩)])/\b=W.alloc (.cells #[.map a] 217) :=
 (bM (n:=5)).1 (AnyZI.keys_in keysA Fence.wide 5 trivial rfl a W)
theorem FI(b h:Nat)(c:DataW Unit)(w:World)(g:w.ownsMap prog 2 am b h c)(r:Maps.size c<=64) :
 Calls prog 141 #[.func (.func 147) #[] #[.pointer (some ⟨w.heap.size,0,none⟩)]] (w.alloc<|.cells #[.map (some b)] 217) λf e=>∃(v:Value)(a:List Int),f=.returned v/\a.Perm (intKeys c) /\
  e.ownsRow w.heap.size 2 1 v a.length ((a.mergeSort λx y=>decide (x<=y)).map encZ)/\Below w.heap.size w e:=by
 refine(bM (n:=5)).1 ?_;have n:=g.lt;have q:SeqGives Fence.wide 2 prog 147 #[.pointer (some ⟨w.heap.size,0,none⟩)] encZ (λa=>a.Perm<|intKeys c) (Maps.size c) (w.alloc<|.cells #[.map (some b)] 217) :=
  AnyZI.keys_gives (ρ:=keysA_ren) { keysA with } Fence.wide _ trivial rfl oM w.heap.size b h c _ sP sP (by
   obtain⟨k,j,d,i,p,l⟩:=g;exact⟨k,j,(Below.heap_alloc _ _ b n).trans d,i,p,l⟩)
 have cS:=AnyZI.sorted_in sortedA Fence.wide 5 trivial trivial trivial trivial rfl oM (GS _) (enters_of func146 kR rfl) 147 #[.pointer (some ⟨w.heap.size,0,none⟩)] trivial (enters_of func147 kR rfl) _ _ (by unfold maxLen;omega) oM _ q;change CallsIn _ _ prog 141 _ _ _ at cS;refine cS.mono ?_;rintro f e⟨v,a,rfl,m,o,s,d⟩;exact⟨v,a,rfl,m,ownsRow_base_a o sP,((Below.refl _ w).alloc (aA _) _).trans (d.mono sP)⟩
end
section
open Go.Maps Go.Sort
theorem pC{L:List Mv}(g:(ah L).Nodup){q m:Mv}(hq:q∈L)(f:m∈L)(e:q.to=m.to):q=m:=by
 obtain⟨i,b,rfl⟩:=bR hq;obtain⟨j,c,rfl⟩:=bR f;have d:=gY.1 (show(L.map (·.to)).Pairwise (·≠·)from g);rcases mA i j with a|a|a;·exact(d i j (by simpa using b) (by simpa using c) a (by simp[e])).elim
 .subst a;rfl
 exact(d j i (by simpa using c) (by simpa using b) a (by simp[e])).elim
def ip(L:List Mv)(left:Lit->Bool)(t:Nat):Bool:=L.any λm=>!left (.int .i64 m.to)&&(m.frm==(t:Int))
theorem FV{L:List Mv}{left:Lit->Bool}(h:∀m∈L,left (.int .i64 m.to)=true)(t:Nat):ip L left t=false:=List.any_eq_false.2 λm a=>by simp[h m a]
theorem GQ{L:List Mv}{left:Lit->Bool}(h:∀k,left k=false)(t:Nat):ip L left t=bu L t:=by
 unfold ip bu;congr 1;funext m;simp[h]
theorem F7{L:List Mv}(b:(ah L).Nodup){left:Lit->Bool}{m:Mv}(a:m∈L)(t:Nat):ip L (λz=>left z&&!z.sameKey (.int .i64 m.to)) t=(ip L left t||m.frm==(t:Int)):=by
 rw[eQ];unfold ip;simp only[List.any_eq_true,dI];constructor
 .rintro⟨q,hq,h⟩;by_cases e:q.to=m.to
  .have:=pC b hq a e;subst this;simp only[bY]at h;exact aZ h.2
  rw[lf e]at h;exact bC ⟨q,hq,h⟩
 rintro(⟨q,hq,h⟩|h)
 .by_cases e:q.to=m.to
  .refine⟨q,hq,?_⟩;rw[e,oV];simp only[bY]at h;simpa using h.2
  exact⟨q,hq,by rw[lf e];exact h⟩
 exact⟨m,a,by rw[oV];simpa using h⟩
def fg(m:Mv):List Nat:=if m.frm<0 then []else [m.frm.toNat]
theorem Ga(m:Mv):Ft (Io m)=(fg m).map Int.ofNat:=by
 unfold fg Io;by_cases h:m.frm<0;·rw[aU h,aU h];rfl
 rw[aM h,aM h];show[m.frm]++[]=[Int.ofNat m.frm.toNat];rw[fF];congr 1;exact(fR oM).symm
theorem FW(m:Mv)(W t:Nat):(d7 W<|fg m).testBit t=(W.testBit t||m.frm==(t:Int)):=by
 unfold fg;by_cases h:m.frm<0
 .rw[aU h];have:(m.frm==(t:Int))=false:=by simpa using(by omega:m.frm≠t)
  rw[this,jU];rfl
 rw[aM h];show(W|||2^m.frm.toNat).testBit t=_;rw[Nat.testBit_or,nE];congr 1;rw[eQ];simp;omega
theorem Gb{m:Mv}(h:m.frm=-1\/(0<=m.frm/\m.frm<64)):∀t∈fg m,t<64:=by
 unfold fg;split;·simp
 simp;omega
def ai(a:List Int):List Int:=a.mergeSort λx y=>decide (x<=y)
theorem f8(a:List Int):(ai a).Perm a:=List.mergeSort_perm _ _
theorem vD(a:List Int)(e:n<=m)(f:m<(ai a).length):(ai a)[n]<=(ai a)[m]:=by
 have g:(ai a).Pairwise (λd b=>decide (d<=b)=true):=List.pairwise_mergeSort (λd b c i j=>by simp only[bD]at*;omega) (λd b=>by simp only[dI,bD];omega) a;rcases Nat.lt_or_eq_of_le e with h|h;·simpa using List.pairwise_iff_getElem.1 g n m oM f h
 subst h;exact Int.le_refl _
theorem FK{L:List Mv}(b:l.Perm (ah L))(e:n<(ai l).length)(h:∀j (k:j<n),bu L ((ai l)[j]' oM)=true)(d:bu L (ai l)[n]=false):aw (dq L)=some (ai l)[n]:=by
 refine vB (fG.2 ⟨((f8 l).trans b).mem_iff.1 (aH e),by rw[d];rfl⟩) λx i=>?_;let⟨c,a⟩:=fG.1 i;obtain⟨j,f,rfl⟩:=bR<|((f8 l).trans b).mem_iff.2 c;by_cases g:j<n;·rw[h j g]at a;cases a
 exact vD l oM f
theorem F3{L:List Mv}(b:l.Perm (ah L))(c:∀j (h:j<(ai l).length),bu L (ai l)[j]=true):aw (dq L)=none:=by
 rw[ie];refine mJ.2 λx d=>?_;obtain⟨j,a,rfl⟩:=bR<|((f8 l).trans b).mem_iff.2 d;rw[c j a];simp
theorem FQ{L:List Mv}(a:l.Perm (ah L))(b:0<(ai l).length):aw (ah L)=some (ai l)[0]:=by
 refine vB (((f8 l).trans a).mem_iff.1 (aH b)) λx d=>?_;obtain⟨j,c,rfl⟩:=bR<|((f8 l).trans a).mem_iff.2 d;exact vD l (aN _) c
theorem pg{L:List Mv}(a:l.Perm (ah L)):(ai l).length=L.length:=by
 rw[((f8 l).trans a).length_eq];simp[ah]
theorem pj{L:List Mv}(a:l.Perm (ah L)):t∈ai l↔t∈ah L:=((f8 l).trans a).mem_iff
theorem calm(h:Below w.heap.size w v):w.grownBy v none:=⟨h.os,h.tape,h.output,h.size,λk a _=>h.block k a⟩
end
section
open Go.Maps Go.Sort
theorem uO(b i:Nat)(a:DataW Unit)(L:List Mv)(w:World)(m:w.ownsMap prog 2 am b i a)(k:Maps.size a<=64)(g:(intKeys a).Perm (ah L)) :
 Calls prog 141 #[.func (.func 147) #[] #[.pointer (some ⟨w.heap.size,0,none⟩)]] (w.alloc<|.cells #[.map (some b)] 217) λf e=>∃c c4 d,f=.returned (.slice c L.length c4)/\Hs (d.Perm<|ah L)/\Zx e w.heap.size e.heap.size c ((ai d).map encZ)/\Below w.heap.size w e:=by
 refine(FI b i a w m k).mono ?_;rintro f o⟨v4,d,rfl,h,l,j⟩;obtain⟨c,c4,rfl,n⟩:=UO l;exact⟨c,c4,d,by rw[bK];rw[<-pg (h.trans g)];rfl,Xa<|h.trans g,n,j⟩
theorem pw(m:Mv):∃(k:Nat)(a:Int),Io m=⟨k,m.to,a,0,0⟩/\1<=k/\k<=13:=by
 unfold Io;split;·exact⟨13,0,rfl,oM,oM⟩
 exact⟨11,m.frm,rfl,oM,oM⟩
theorem Gm{x y:Yg}(h:cu x=cu y):x=y:=by
 let⟨a,b,c,d,e⟩:=x;let⟨f,b2,g,i,j⟩:=y;simp only[cu,Value.agg.injEq]at h;have:=fI Array.toList h;simp at this;obtain⟨rfl,rfl,rfl,rfl,rfl⟩:=this;rfl
structure GU(L:List Mv)(m:Mv)(g R W:Nat)(w w':World):Prop where
 grown:w.grownBy w' (some g)
 lt:d7 W (fg m)<18446744073709551616
 cell:w'.cell? ⟨g,0,none⟩=some (.int .u64 (d7 W<|fg m))
 thaw:∀q,w'.frozen? ⟨g,q,none⟩=false
theorem uz(b E:Nat)(G:DataW Unit)(L:List Mv)(w:World)(b8:Hs (w.ownsMap prog 2 am b E G))(hn:E<=64)(C:Hs (an G L))(T:Hs (bh L))(da:Hs (L≠[]))(ht:Hs (Yy w)) :
 Calls prog 129 #[.map (some b)] w λe w'=>Below w.heap.size w w'/\∃t ac,e=.returned (.tuple #[.int .i64 t,.bool ac])/\((ac=true/\aw (dq L)=some t)\/(ac=false/\aw (dq L)=none/\aw (ah L)=some t)):=by
 have d0:=b8.lt
 go_in
 go_wp2_with (first
  |(go_at_call 139;refine(FN _).mono ?_;rintro e p⟨g,rfl,n,S,al,a1⟩;have ca:=(b8.kept (calm S) sP).alloc (.cells #[.slice (some ⟨g,0,none⟩) 1 1] 232))
  |(at_range;refine wpList_range_own _ rfl _ 217 rfl 2 48 Nk Nw am b E G rfl ca ?_;intro w0 ax N db)
  |go_in)
 have ea:=S.size;have cw:=n;have cx:g<p.heap.size:=aI p _ al;have dj:=λq=>a1 q
 have a3:=Xa ((Xb S _).grown N (by simp;omega) λk O=>by cases O);have bp:Cl w0 p.heap.size 0 (.slice (some ⟨g,0,none⟩) 1 1):=(Xc<|N.block p.heap.size sP sP).trans sP;have bi:w0.cell? (Hk g 0)=some (.int .u64 ((0:Nat):Int)):=(Xc<|N.block g (by simp;omega) sP).trans (by rw[bP _ _ _ cx];exact al);have bv:∀q,w0.frozen? (Hk g q)=false:=λq=>by
  rw[bJ (N.block g (by simp;omega) sP),World.frozen?_alloc_old _ _ _ (by show g≠_;omega)];exact a1 q
 have e0:(p.alloc<|.cells #[.slice (some ⟨g,0,none⟩) 1 1] 232).heap.size=p.heap.size+1:=sP;rw[e0]at ax;rw[e0];have bd:=Xa bv;clear bv dj a1 al db ca e0 N;generalize p.heap.size=R at*
 go_frame
 go_loopw [13] (λ_ wr=>∃(left:Lit->Bool)(bf W:Nat),Hs (wr.ranges prog 2 am b (R+1) E G left bf)/\Hs (Below w.heap.size w wr)/\wr.cell? (Hk R 0)=some (.slice (some ⟨g,0,none⟩) 1 1)/\Hs (W<18446744073709551616)/\wr.cell? (Hk g 0)=some (.int .u64 W)/\Hs (∀q,wr.frozen? (Hk g q)=false)/\Hs (∀t,W.testBit t=ip L left t))
  (λ_ wr=>wr.rangeLeft b<|R+1)
 case atStart=>exact⟨_,_,0,Xa ax,a3,bp,Xa oM,bi,bd,Xa λt=>by rw[FV λm c8=>(C.keys _).2 ⟨m,c8,rfl⟩];simp⟩
 clear ax a3 bp bi bd S;obtain⟨left,bf,W,h,s,z,HW,y,HZ,HV⟩:=hrel
 go_wp2_with (first
  |(at_next;refine wpList_next_ranges _ rfl _ rfl 2 Nk am (Value.int .i64) cu (λed kl ao=>by obtain⟨x,rfl,_⟩:=Maps.keyOf_int_inv underlying2 ao;exact⟨x,rfl⟩) (λee eg U=>by obtain⟨x,rfl,_⟩:=iT U;exact⟨x,rfl⟩) b (R+1) E _ _ _ rfl h ?_ ?_)
  |go_in)
 .intro _ b6
  have ci:Hs (∀t:Nat,W.testBit t=bu L t):=Xa (λt=>by rw[HV.o t,GQ b6]);have b3:=T.o;have cb:=C.perm b3.nd (λes he dn o=>by
   obtain⟨du,e1,_,e3⟩:=h.owns.entries Nk;rw[he]at e1;injection e1 with e1;subst e1;exact e3 dn o)
  have ay:=s.size;have HS:=Xa<|uO b E G L wr h.owns (aJ h.owns.size_le hn) cb;have Q:=Xa<|uZ (some b) wr;clear cb b3
  go_wp2_with (first
   |(go_at_call 142;with_reducible refine Q.o.mono ?_;rintro e w3⟨rfl,ce⟩;rw[ce];clear ce w3)
   |(go_at_call 141;with_reducible refine HS.o.mono ?_;rintro e V⟨a4,c4,d,rfl,o,cd,K⟩))
  have P:=Xa<|s.trans (K.mono ay);have bt:=oB K z<|aI wr _ z;have bn:=oB K y<|aI wr _ y;have d3:L.length<=64:=by rw[<-C.size];exact aJ h.owns.size_le hn
  have d2:=List.length_pos_iff.2 da;have bc:=Xa cd;have Z:=Xa<|pg o;have co:Hs (∀x∈ai d,0<=x/\x<64):=Xa (λx hx=>by
   obtain⟨q,hq,rfl⟩:=aY.1<|(pj o).1 hx;exact T.to q hq)
  have eb:=K.size;clear cd K HS Q z y s h b6 HV HZ ay C;generalize L.length=nl at*;generalize wr.heap.size=ds at*;generalize wr=ef at*
  go_loopw [25] (λa2 wr=>∃q:Nat,q<=nl/\a2=.int .i64 q/\Hs (Below V.heap.size V wr)/\Hs (∀j (J:j<(ai d).length),j<q->bu L (ai d)[j]=true)) λa2 _=>nl-(RowKit.intOf a2).toNat
  case atStart=>exact⟨0,aN _,rfl,Xa<|Below.refl _ _,Xa λj _ J=>absurd J oM⟩
  obtain⟨q,hq,rfl,f,Y⟩:=hrel;have dw:=oB f bt<|aI V _ bt;have cq:=oB f bn<|aI V _ bn;have cf:=f.size;by_cases ap:q<nl
  .have D:q<(ai d).length:=oN Z.o;obtain⟨b4,o4,rfl,aj,M⟩:=bc q (by simpa using D);have B:=oB f M aj.2;rw[cM]at B;have a0:=co _<|aH D;obtain⟨t,az⟩:∃t:Nat,(ai d)[q]=(t:Int):=⟨(ai d)[q].toNat,(fR a0.1).symm⟩;have ab:=Xa az;rw[az]at B a0;have dd:t<64:=oM;have H:=Xa<|Gy g W t wr dd HW cq;have bz:=ci t;rw[bz]at H;clear M az bz a0;cases hrd:bu L t with
   |false=>
    rw[hrd]at H;have aa:Hs (aw (dq L)=some (t:Int)):=Xa (by rw[<-ab.o];exact FK o D (λj a=>Y j _ a) (by rw[ab.o];exact hrd));clear hrd;go_wp2_with (go_at_call 143;with_reducible refine H.o.mono ?_;rintro e w6⟨rfl,af⟩)
    refine cC (v:=.tuple #[.int .i64 t,.bool true]) (by simp[results,results129,go_sem, *]) rfl ?_;exact⟨P.trans<|(f.trans<|af.mono cf).mono (oN P.size),_,_,rfl,bC ⟨rfl,aa⟩⟩
   |true=>
    rw[hrd]at H;have ch:Hs (∀j (J:j<(ai d).length),j<q+1->bu L (ai d)[j]=true):=Xa (λj J a=>by
     rcases Nat.lt_succ_iff_lt_or_eq.1 a with a|a;·exact Y j J a
     subst a;rw[ab.o];exact hrd)
    clear hrd;go_wp2_with (go_at_call 143;with_reducible refine H.o.mono ?_;rintro e w6⟨rfl,af⟩)
    exact⟨⟨q+1,oM,gM,Xa<|f.trans (af.mono cf),ch⟩,by simp[RowKit.intOf];omega⟩
  have D:0<(ai d).length:=oN Z.o;obtain⟨b4,o4,rfl,aj,M⟩:=bc 0 (by simpa using D);have B:=oB f M aj.2;rw[cM,fW]at B;have aa:=Xa (F3 o λj a=>Y j a<|oN Z.o);have cl:=Xa<|FQ o D;generalize (ai d)[0]=t at*;clear M;go_wp2;refine cC (v:=.tuple #[.int .i64 t,.bool false]) (by simp[results,results129,go_sem, *]) rfl ?_;exact⟨P.trans<|f.mono (oN P.size),_,_,rfl,aZ ⟨rfl,aa,cl⟩⟩
 intro x c kl yd yp F cp ao d4 U ad cc ap n dc d1;obtain⟨x',ex,rfl,di⟩:=Maps.keyOf_int_inv underlying2 ao;cases ex;obtain⟨c',ec,ey⟩:=iT U;obtain⟨rfl,rfl⟩:=Prod.mk.inj ey;have cv:=Gm ec;subst cv;obtain⟨m,aq,ar⟩:=(C.keys<|.int .i64 x).1 (has_true_of_atKey (y:=dx c) ad);have c9:x=m.to:=by simpa using ar
 have b0:c=Io m:=pd (by rw[<-C.at_ m aq (.lit (.bool true)),<-ar];exact(ad _).symm);obtain⟨k,i,O,cz,c6⟩:=pw m;have Q:=Xa O;rw[O]at b0;subst c9 b0;unfold cu at*;clear ar ey ec U ad O di;dsimp only at*;have cs:R<wr.heap.size:=aI wr _ z;have bo:g<wr.heap.size:=aI wr _ y;have bq:=(Xc (o:=0) (n.block R cs sP)).trans z;have bl:=(Xc (o:=0) (n.block g bo<|by simp;omega)).trans y;have bw:∀q,F.frozen? (Hk g q)=false:=λq=>by rw[bJ<|n.block g bo (by simp;omega)];exact HZ q
 have ay:=s.size;have a6:=Xa (s.grown n oM λj a=>by cases a;omega);have a9:=Xa cc;have cj:=Xa ap;clear z y HZ s n cc ap;go_wp2_with fail
 have e2:(F.alloc<|.cells #[.int .i64 k,.int .i64 m.to,.int .i64 i,.int .i64 0,.int .i64 0] 48).heap.size=F.heap.size+1:=sP;have a8:Hs (Jk (F.alloc<|.cells #[.int .i64 k,.int .i64 m.to,.int .i64 i,.int .i64 0,.int .i64 0] 48) wr.heap.size 0 ⟨k,m.to,i,0,0⟩):=Xa (by rw[<-dc];exact⟨sP,sP,sP,sP,sP⟩);have a7:=Xa<|Xb a6 (.cells #[.int .i64 k,.int .i64 m.to,.int .i64 i,.int .i64 0,.int .i64 0] 48);have cm:=Xa<|a9.alloc (.cells #[.int .i64 k,.int .i64 m.to,.int .i64 i,.int .i64 0,.int .i64 0] 48);have cr:(λx9:World=>x9.cell? (Hk R 0)=some (.slice (some ⟨g,0,none⟩) 1 1)/\x9.cell? (Hk g 0)=some (.int .u64 W)/\Hs (∀q,x9.frozen? (Hk g q)=false)) (F.alloc<|.cells #[.int .i64 k,.int .i64 m.to,.int .i64 i,.int .i64 0,.int .i64 0] 48):=⟨(by rw[bP _ _ _<|by show R<_;omega];exact bq),(by rw[bP _ _ _<|by show g<_;omega];exact bl),(Xa λq=>by rw[World.frozen?_alloc_old _ _ _ (by show g≠_;omega)];exact bw q)⟩;generalize F.alloc _=u at*;obtain⟨br,bm,bx⟩:=cr;clear bq bl bw a6 a9;have bb:=Xa<|ht.keep a7 ht.1;have ck:Hs (Calls prog 118 #[.pointer (some ⟨wr.heap.size,0,none⟩)] u.drew λe r=>∃v n5 c5,e=.returned (.slice v n5 c5)/\r.cell? (Hk R 0)=some (.slice (some ⟨g,0,none⟩) 1 1)/\Hs (Calls prog 140 #[.agg #[.slice (some ⟨g,0,none⟩) 1 1],.slice v n5 c5] r λe X=>e=.returned (.tuple #[])/\X.cell? (Hk R 0)=some (.slice (some ⟨g,0,none⟩) 1 1)/\Hs (GU L m g R W u X))):=Xa (by
  refine(r6 wr.heap.size k m.to i 0 0 u.drew a8 cz c6 bb).mono ?_;rintro e r⟨v5,rfl,l,b7⟩;have A:Below u.heap.size u r:=⟨l.os,l.tape,l.output,l.size,l.block⟩;rw[<-Q.o,Ga]at b7;obtain⟨v,c5,rfl,df⟩:=UO b7;have d5:=A.size;refine⟨v,_,c5,rfl,oB A br oM,Xa ?_⟩;refine(GE g W _ c5 v (fg m) u.heap.size r.heap.size r (Xa ?_) (Xa sP) (by simp;unfold fg;split<;>simp) (Xa<|Gb (T.frm m aq)) HW ((XU A oM).trans bm) (λq=>by rw[bJ<|A.block g oM];exact bx q) (aA _) oM).mono ?_
  .intro dl hi;obtain⟨b5,o5,e5,l,B⟩:=df dl (by simpa using hi);exact⟨b5,o5,e5,l,by rw[B];simp⟩
  rintro e X⟨rfl,b1,c7,ct,dk⟩
  exact⟨rfl,(Xc<|b1.block R oM (by simp;omega)).trans ((XU A oM).trans br),Xa ⟨((calm A).but (some g)).andThen b1 (λj a=>by cases a;exact aZ rfl),c7,ct,dk⟩⟩)
 clear a8 bb bm bx
 go_region_held3 (λw'=>w'.cell? (Hk R 0)=some (.slice (some ⟨g,0,none⟩) 1 1)) (go_keep)
  (first
   |(go_at_call 118;with_reducible refine ck.o.mono ?_;rintro e r⟨v,n5,c5,rfl,f5,cg⟩)
   |(go_at_call 140;with_reducible refine cg.o.mono ?_;rintro e X⟨rfl,f7,I⟩))
 all_goals
  have ba:=Xa<|cm.kept I.grown (by simp;omega) (by simp;omega)
  go_roundw
  case rel=>exact⟨_,_,_,_,_,_,_,_,⟨_,cp,_,ba,Xa (a7.grown I.grown oM λj a=>by cases a;exact cw),f7,Xa I.lt,I.cell,Xa I.thaw,Xa λt=>by rw[FW,HV.o t];exact(F7 T.nd aq t).symm⟩,rfl⟩
  rw[ba.left_eq,h.left_eq];exact cj
end
section
open Go.Maps Go.Sort
def cn(L:List Mv)(r:Int)(S:List Int):List Mv:=L.map λm=>if m.frm=r/\m.to∈S then ⟨m.to,-1⟩else m
theorem Gl(L:List Mv)(r:Int):cn L r []=L:=by simp[cn]
theorem Gt{L:List Mv}(r:Int)(h:∀m∈L,m.to∈l):cn L r l=scratch L r:=by
 refine gH λm a=>?_;simp[h m a]
theorem GN{L:List Mv}(r:Int){m:Mv}(a:m∈L)(h:m.to∉l):m∈cn L r l:=aY.2 ⟨m,a,aM λe=>h e.2⟩
theorem Gh{L:List Mv}{S:List Int}{m:Mv}(c:(ah L).Nodup)(b:m∈L)(h:m.frm=t\/m.frm=-1):jq (cn L t S) m.to=cn L t (S++[m.to]):=by
 unfold jq cn;rw[jO];refine gH λq hq=>?_;show(if (if q.frm=t/\q.to∈S then (⟨q.to,-1⟩:Mv)else q).to=m.to then (⟨(if q.frm=t/\q.to∈S then (⟨q.to,-1⟩:Mv)else q).to,-1⟩:Mv)else (if q.frm=t/\q.to∈S then (⟨q.to,-1⟩:Mv)else q))=_;have d:(if q.frm=t/\q.to∈S then (⟨q.to,-1⟩:Mv)else q).to=q.to:=by split<;>rfl
 rw[d];by_cases e:q.to=m.to
 .have:=pC c hq b e;subst this;rw[aU rfl];by_cases a:q.frm=t;·rw[aU ⟨a,sP⟩]
  rw[aM λe=>a e.1];rcases h with h|h;·exact absurd h a
  cases q;simp_all
 rw[aM e];simp[e]
theorem FY{L:List Mv}{S:List Int}{m:Mv}(b:(ah L).Nodup)(a:m∈L)(h:m.frm≠t):cn L t (S++[m.to])=cn L t S:=by
 refine gH λq hq=>?_;by_cases e:q.to=m.to
 .have:=pC b hq a e;subst this;rw[aM λe=>h e.1,aM λe=>h e.1]
 simp[e]
theorem F5(L:List Mv)(r:Int)(S:List Int):ah (cn L r S)=ah L:=by
 unfold ah cn;rw[jO];refine gH λm _=>?_;show(if m.frm=r/\m.to∈S then (⟨m.to,-1⟩:Mv)else m).to=m.to;split<;>rfl
theorem FZ{b:Nat}{D:DataW Unit}(h:w.ownsMap prog 2 am b n D)(e:Maps.size D<=m):w.ownsMap prog 2 am b m D:=by
 obtain⟨c,a,d,F,f,rfl⟩:=h;exact⟨c,a,d,F,by simpa [Maps.size,length_sorted]using e,rfl⟩
theorem F4{b:Nat}{D:DataW Unit}(h:w.ownsMap prog 2 am b n D):∀a,D=.map a->∀p∈a,WideAt.IsKeyLit p.1:=λa c p d=>by
 let⟨e,e1,_,e3⟩:=h.entries Nk;rw[c]at e1;injection e1 with e1;subst e1;exact e3 p d
theorem Gw(k t a:Int)(W:World):(Instr.field 48 (.agg #[.int .i64 k,.int .i64 t,.int .i64 a,.int .i64 0,.int .i64 0]) 2).run prog W=.ok (.int .i64 a) W:=kR
theorem G5(m:Mv)(h:m.frm=-1\/(0<=m.frm/\m.frm<64))(r:Int)(a:0<=r):((Io m).a=r/\(m.frm=r\/m.frm=-1))\/((Io m).a≠r/\m.frm≠r):=by
 unfold Io;split
 .show((0:Int)=r/\_)\/((0:Int)≠r/\_);omega
 show(m.frm=r/\_)\/(m.frm≠r/\_);omega
theorem Fl(b:Nat)(D:DataW Unit)(L:List Mv)(r:Int)(w:World)(k:Hs (w.ownsMap prog 2 am b 64 D))(p:Hs (an D L))(i:Hs (bh L))(hr:0<=r) :
 Calls prog 130 #[.map (some b),.int .i64 r] w λe w'=>e=.returned (.tuple #[])/\w.grownBy w' (some b)/\∃I,w'.ownsMap prog 2 am b 64 I/\an I (scratch L r):=by
 have a0:=k.lt;have ar:L.length<=64:=by rw[<-p.size];exact k.size_le
 have N:=Xa<|uO b 64 D L w k k.size_le (p.perm i.nd<|F4 k);have K:=Xa<|uZ (some b) w
 go_in
 go_wp2_with (first
  |(go_at_call 142;with_reducible refine K.o.mono ?_;rintro e w3⟨rfl,Z⟩;rw[Z];clear Z w3)
  |(go_at_call 141;with_reducible refine N.o.mono ?_;rintro e w4⟨a4,c4,a,rfl,z,Y,C⟩))
 have aj:=Xa Y;have M:=Xa<|pg z;have J:=Xa C;have a9:=C.size;have HN:=Xa<|((f8 a).trans z).nodup_iff.2 i.nd;clear Y C N K;have af:=Xa<|k.kept (calm J) sP;have aa:Hs (w.grownBy w4<|some b):=Xa<|(calm J).but _;generalize U:L.length=B at*;have ad:=Xa U;clear U
 go_loopw [10] (λG wr=>∃(q:Nat)(c:DataW Unit),q<=B/\G=.int .i64 q/\Hs (w4.grownBy wr<|some b)/\Hs (wr.ownsMap prog 2 am b 64 c)/\Hs (an c<|cn L r ((ai a).take q))) λG _=>B-(RowKit.intOf G).toNat
 case atStart=>exact⟨0,D,aN _,rfl,Xa<|(calm<|Below.refl _ _).but _,af,Xa<|by rw[lK,Gl];exact p⟩
 obtain⟨q,c,hq,rfl,s,l,t⟩:=hrel;by_cases a6:q<B
 .have A:q<(ai a).length:=oN M.o
  obtain⟨P,o4,rfl,ao,Q⟩:=aj q (by simpa using A);have v:=(Xc (o:=o4+q) (s.block P ao.2<|by simp;omega)).trans Q;rw[cM]at v;have X:=(pj z).1 (aH A);obtain⟨m,j,y⟩:=aY.1 X;have O:Hs ((ai a).take (q+1)=(ai a).take q++[m.to]):=Xa (by rw[y];exact bN A);have T:m.to∉(ai a).take q:=λx=>by
   obtain⟨F,o,e⟩:=bR x;rw[dH]at o;rw[jG]at e;have:=gY.1 HN F q oM A oM;exact this<|by rw[e,y]
  rw[<-y]at v;have a1:Cl wr P (o4+q) (.int .i64 m.to):=v;clear v;have a8:=i.to m j;have E:=vm l t (GN r j T) oM;have ap:=i.frm m j;have d:=Xa<|G5 m ap r hr;obtain⟨ay,u,R,a3,a5⟩:=pw m;rw[R]at E d;unfold cu at E;dsimp only at E d;have ab:=Xa<|jt m.to oM;have az:=Xa l.size_le;have S:(cn L r<|(ai a).take (q+1)).length<=64:=by unfold cn;rw[bK,ad.o];exact ar
  have ac:=Xa S;have a2:=Gw ay m.to u wr;clear Q X y R T S;by_cases g:u=r
  .have W:m.frm=r\/m.frm=-1:=by rcases d.o with h|h;exact h.2;exact absurd g h.1
   have n:=Xa<|Gh (S:=(ai a).take q) i.nd j W;have x:(cn L r<|(ai a).take q).any (λH=>H.to==m.to)=true:=by
    have:m.to∈ah (cn L r<|(ai a).take q):=by rw[F5];exact aY.2 ⟨m,j,rfl⟩
    obtain⟨H,hz,e⟩:=aY.1 this;exact List.any_eq_true.2 ⟨H,hz,by simpa using e⟩
   have f:Hs (an (c.put (.int .i64 m.to) (dx ⟨13,m.to,0,0,0⟩)) (cn L r<|(ai a).take (q+1))):=Xa (by rw[O.o,<-n.o];exact t.put_old x);have al:(u==r)=true:=by simpa using g
   clear d W x g n;go_wp2_with (at_mapUpdate;refine wpList_mapUpdate_own _ rfl _ _ _ 217 rfl 2 48 Nk Nw am b 64 c rfl l (by unfold maxLen;omega) _ _ _ rfl rfl ab (dx ⟨13,m.to,0,0,0⟩) [] rfl ?_;intro w3 ax aq)
   exact⟨⟨q+1,_,oM,gM,Xa (s.andThen aq λF o=>by cases o;exact aZ rfl),Xa (FZ ax<|by rw[f.size];exact ac),f⟩,by simp[RowKit.intOf];omega⟩
  have V:m.frm≠r:=by rcases d.o with h|h;exact absurd h.1 g;exact h.2
  have n:=Xa<|FY (S:=(ai a).take q) i.nd j V;have al:(u==r)=false:=by simpa using g
  have f:Hs (an c<|cn L r ((ai a).take (q+1))):=Xa (by rw[O.o,n.o];exact t);clear d V g n;go_wp2;exact⟨⟨q+1,_,oM,gM,s,l,f⟩,by simp[RowKit.intOf];omega⟩
 have a7:q=B:=oM
 have f:Hs (an c<|scratch L r):=Xa (by
  have:=t.o;rw[aW<|oN M.o,Gt r λm p=>(pj z).2 (aY.2 ⟨m,p,rfl⟩)]at this;exact this)
 go_wp2
 go_end0
 exact⟨rfl,aa.andThen s (λF o=>by cases o;exact aZ rfl),c,l,f⟩
end
section
open Go.Maps Go.Sort
def ly:Value->Nat
 |.slice _ n _=>n
 |_=>0
theorem pu(h:w.ownsRow n m k a B y):ly a=B:=by
 rcases Vc h with⟨rfl,h0,_⟩|⟨g,c,rfl,_,_⟩;·rw[h0];rfl
 rfl
theorem pm(w:World)(k t c b i:Int)(d:Nat):∀j u,([.int .i64 k,.int .i64 t,.int .i64 c,.int .i64 b,.int .i64 i]:List Value)[j]?=some u->(w.alloc<|.cells #[.int .i64 k,.int .i64 t,.int .i64 c,.int .i64 b,.int .i64 i] d).cell? ((⟨w.heap.size,0,none⟩:Addr).add j)=some u:=λj u a=>by
 rw[jn]
 match j,a with
 |0,a=>simpa using a
 |1,a=>simpa using a
 |2,a=>simpa using a
 |3,a=>simpa using a
 |4,a=>simpa using a
theorem pD{b:Nat}(h:w.ownsRow (b+1) n m a k y):some b≠a.ownBlock:=λn=>by
 have:=(h.lt b n.symm).1;omega
theorem pz(k t c b i:Int):∀u∈([Hp k,Hp t,Hp c,Hp b,Hp i]:List Value),u.oneCell'=true:=λu a=>by
 simp at a;rcases a with rfl|rfl|rfl|rfl|rfl<;>rfl
structure G4(w W w':World)(v v':Value)(D:DataW Unit)(out:List Yg)(x:Yg):Prop where
 row:w'.ownsRow (w.heap.size+1) 48 5 v' (out++[x]).length (ZP<|out++[x])
 ne:v'≠.slice none 0 0
 map:w'.ownsMap prog 2 am w.heap.size 64 D
 below:Below w.heap.size w w'
theorem vL{wr:World}{v1:Value}{D:DataW Unit}{out:List Yg}{b i:Int}{o:Obj}(c:Below w.heap.size w wr)(d:v.ownsMap prog 2 am w.heap.size 64 D)(e:v.ownsRow (w.heap.size+1) 48 5 a out.length (ZP out))(f:Below wr.heap.size wr v)(m:a≠.slice none 0 0)
 (l:u.ownsRow (w.heap.size+1) 48 5 v1 (out.length+1) (ZP out++[.int .i64 t,.int .i64 T,.int .i64 z,.int .i64 b,.int .i64 i])) (g:(v.alloc o).grownBy u a.ownBlock) (k:v1=.slice none 0 0↔a=.slice none 0 0/\1=0):G4 w wr u a v1 D out ⟨t,T,z,b,i⟩:=by
 have j:=c.size;have n:=f.size;have p:=d.lt;refine⟨?_,λh=>m (k.1 h).1,(d.alloc o).kept g (pD e),?_⟩;·rw[ll,aQ];exact l
 exact Xy ((c.trans<|f.mono j).alloc oM o) g (e.alloc o) (gX _) (by simp;omega)
theorem FM{L:List Mv}(h:bh L){m:Mv}(c:m∈L)(b:aw (dq L)=some m.to):b9 L=(Io m,d6 L m.to):=by
 unfold b9;rw[b];obtain⟨i,a,rfl⟩:=bR c;show(Io ⟨_,lm L _⟩,_)=_;rw[GL h a]
theorem FH{L:List Mv}(a:aw (dq L)=none)(b:aw (ah L)=some t):b9 L=(⟨12,0,t,0,0⟩,scratch L t):=by
 unfold b9;rw[a];dsimp only;rw[b]
theorem Gk(b:Nat)(D:DataW Unit)(L:List Mv)(w:World)(t:Int)(j:Hs (w.ownsMap prog 2 am b 64 D))(g:Hs (an D L))(f:Hs (bh L))(i:Hs (L≠[]))(k:Hs (Yy w))(a:aw (dq L)=some t) :
 Calls prog 129 #[.map (some b)] w λe c=>e=.returned (.tuple #[Hp t,.bool true])/\Below w.heap.size w c:=by
 refine(uz b 64 D L w j (aA _) g f i k).mono ?_;rintro e c⟨d,m,l,rfl,⟨rfl,h⟩|⟨rfl,h,_⟩⟩;·rw[a]at h;cases h;exact⟨rfl,d⟩
 rw[a]at h;cases h
theorem GA(b:Nat)(D:DataW Unit)(L:List Mv)(w:World)(t:Int)(k:Hs (w.ownsMap prog 2 am b 64 D))(i:Hs (an D L))(d:Hs (bh L))(j:Hs (L≠[]))(l:Hs (Yy w))(f:aw (dq L)=none)(g:aw (ah L)=some t) :
 Calls prog 129 #[.map (some b)] w λe a=>e=.returned (.tuple #[Hp t,.bool false])/\Below w.heap.size w a:=by
 refine(uz b 64 D L w k (aA _) i d j l).mono ?_;rintro e a⟨c,n,m,rfl,⟨rfl,h⟩|⟨rfl,_,h⟩⟩;·rw[f]at h;cases h
 rw[g]at h;cases h;exact⟨rfl,c⟩
theorem F9(V:Option Addr)(L c:Nat)(a:List Mv)(ao N:Nat)(w:World)(ha:Hs (pF w ao N V a))(hx:Hs (L=a.length))(hn:L<=1048576)(hB:N<=w.heap.size)(hr:Hs (∀m∈a,-9223372036854775808<=m.to/\m.to<=9223372036854775807))(ht:Hs (Yy w)) :
 Calls prog 107 #[.slice V L c] w λe w'=>∃v,e=.returned v/\v≠Hq/\Below w.heap.size w w'/\w'.ownsRow w.heap.size 48 5 v (dv a).length (ZP<|dv a):=by
 have C:=Xa<|Fp V L c a ao N w ha hx hn hB hr;cases hgm:cy a with
 |false=>
  have G:Hs (dv a=[]):=Xa (by unfold dv;rw[hgm];rfl);rw[hgm]at C
  go_in
  go_wp2_with (go_at_call 128;with_reducible refine C.o.mono ?_;rintro e g⟨i,rfl,_⟩)
  have z:Hs (Below w.heap.size w<|g.alloc (.cells #[] 48)):=Xa<|i.alloc i.size _;have F:=Xa<|Zk (pp g) i.size;generalize g.alloc _=W2 at*;generalize g.heap.size=ap at*
  go_loopw [5] (λv wr=>v=Hl ap 0 0/\wr=W2) λ_ _=>0
  case atStart=>exact⟨rfl,rfl⟩
  obtain⟨rfl,rfl⟩:=hrel;go_wp2;go_ret;exact⟨_,rfl,sP,z,by rw[G.o];exact F⟩
 |true=>
  let⟨ba,aq⟩:=uG hgm;let⟨az,aa⟩:=aq.start;have G:Hs (dv a=dh (bj<|dg a) (dg a)):=Xa (by unfold dv;rw[aU hgm,aa]);have a9:Hs ((dv a).length<=128):=Xa (by
   rw[G.o];refine aJ (oY _ _) ?_;rw[aa];have:(dg a).length<=a.length:=fJ _ _;omega)
  have d:=Xa az;rw[hgm]at C;let⟨i0,ar,a2,a3,a4⟩:=fX Nm
  go_in
  go_wp2_with (go_at_call 128;with_reducible refine C.o.mono ?_;rintro e g⟨i,rfl,j⟩)
  let⟨D0,ab,ay⟩:=j trivial;have bd:=ab.lt;have z:Hs (Below w.heap.size w<|g.alloc (.cells #[] 48)):=Xa<|i.alloc i.size _;have F:Hs ((g.alloc<|.cells #[] 48).ownsRow (w.heap.size+1) 48 5 (Hl g.heap.size 0 0) 0 (ZP [])):=Xa<|Zk (pp g) bd;have al:=Xa<|ab.alloc (.cells #[] 48);have aj:=Xa ay;generalize g.alloc _=W2 at*;generalize g.heap.size=ap at*
  go_loopw [5] (λv wr=>∃(D:DataW Unit)(K:List Mv)(out:List Yg),Hs (wr.ownsMap prog 2 am w.heap.size 64 D)/\Hs (an D K)/\Hs (bh K)/\Hs (Below w.heap.size w wr)/\Hs (wr.ownsRow (w.heap.size+1) 48 5 v out.length (ZP out))/\Hs (v≠Hq)/\Hs (dv a=out++dh (bj K) K)) λv _=>200-ly v
  case atStart=>exact⟨D0,dg a,[],al,aj,d,z,F,Xa sP,Xa<|by rw[G.o];rfl⟩
  let⟨D,K,out,l,k,d,o,E,S,A⟩:=hrel;have ax:=l.len Nw 3;rw[k.size]at ax;have bw:=o.size;have bv:=l.lt;have HT:=Xa<|ht.keep o ht.1;by_cases hK:K=[]
  .subst hK;have a6:Hs (dv a=out):=Xa (by rw[A.o,oZ,fF]);rw[bO]at ax;go_wp2;go_ret;exact⟨_,rfl,S,o,by rw[a6.o];exact Zk E oM⟩
  have bq:=List.length_pos_iff.2 hK
  have U:=Xa<|Gq d hK;have af:=Xa<|pu E;have n:Hs (out.length+1<=128):=Xa (by
   have j:=a9.o;rw[A.o,U.o]at j;simp at j;omega)
  have Q:Hs (K≠[]):=Xa hK;generalize K.length=nk at*;cases hlo:aw (dq K)with
  |some y=>
   have a0:=(fG.1 (iP hlo).1).1;obtain⟨m,t,rfl⟩:=aY.1 a0;have H:=Xa<|FM d t hlo;have P:=Xa<|Gk w.heap.size D K wr m.to l k d Q HT hlo;have J:=d.to m t;have a7:=Xa<|jt m.to oM;let⟨ac,ad,Z,br,bt⟩:=pw m;have a8:Hs (∀W,W.ownsMap prog 2 am w.heap.size 64 D->(Instr.lookup 217 (.map (some w.heap.size)) (Hp m.to) false).run prog W=.ok (.agg #[Hp ac,Hp m.to,Hp ad,Hp 0,Hp 0]) W):=Xa (λW hW=>by
    have:=vm hW k t oM;rw[Z]at this;exact this)
   rw[Z]at H;have a5:=Xa<|k.del d.nd m.to;have T:=Xa<|d.without m.to
   go_wp2_with (first
    |(go_at_call 129;with_reducible refine P.o.mono ?_;rintro e M⟨rfl,f⟩;have B:=Xa<|l.o.kept (calm f) sP;have bc:=a8.o M B.o;have q:=Xa<|E.o.kept (calm f) (Classical.em _);have bm:=f.size;have O:=Xa f;clear f)
    |(at_delete;refine wpList_delete_own _ rfl _ _ 217 2 rfl 48 Nk Nw am w.heap.size 64 D rfl b.map _ _ rfl a7 ?_;intro w5 bl bo)
    |(at_builtin;refine bT _ rfl _ _ 38 rfl (w.heap.size+1) 48 i0 (.agg #[Hp 0,Hp 0,Hp 0,Hp 0,Hp 0]) 5 40 underlying38 ar a2 a3 a4 rfl vZ _ _ _ rfl (q.alloc _) (Hk M.heap.size 0) 1 1 [Hp ac,Hp m.to,Hp ad,Hp 0,Hp 0] rfl rfl (pm _ _ _ _ _ _ _) (pz _ _ _ _ _) (by have:=n.o;unfold maxLen;omega) (oN n.o) (by simp;omega) ?_;intro v1 w4 x s u X;have b:=Xa<|vL o B q O S x s u;clear x s u X bc)
    |go_in)
   have R:=Xa<|pu b.row;have p:=Xa bo.grown;refine⟨?_,?measure⟩
   (repeat apply gP)
   refine⟨?rel,rfl⟩;refine⟨_,d6 K m.to,out++[⟨ac,m.to,ad,0,0⟩],Xa bl,a5,T,Xa (b.below.grown p (aJ (dU b.map.lt) (aA _)) λbp Y=>by cases Y;exact aA _),Xa (b.row.kept p<|aZ λe=>pD b.row e.symm),Xa b.ne,Xa ?_⟩;·rw[A.o,U.o,H.o,cK];rfl
   have j:=af.o;have r:=R.o;have h3:=n.o;rw[aQ]at r;simp only[bA,bO]at r;show 200-ly v1<200-ly u5;omega
  |none=>
   have a1:ah K≠[]:=λe=>Q<|by simpa [ah]using e
   let⟨y,I⟩:∃y,aw (ah K)=some y:=by
    cases h:aw (ah K)with
    |none=>exact absurd (ie.1 h) a1
    |some y=>exact⟨y,rfl⟩
   obtain⟨m,t,rfl⟩:=aY.1 (iP I).1;have H:=Xa<|FH hlo I;have P:=Xa<|GA w.heap.size D K wr m.to l k d Q HT hlo I;have J:=d.to m t;have T:=Xa<|d.scratch m.to;have bn:=J.1
   go_wp2_with (first
    |(go_at_call 129;with_reducible refine P.o.mono ?_;rintro e M⟨rfl,f⟩;have B:=Xa<|l.o.kept (calm f) sP;have q:=Xa<|E.o.kept (calm f) (Classical.em _);have bm:=f.size;have O:=Xa f;clear f)
    |(go_at_call 130;refine(Fl w.heap.size D K m.to _ (Xa b.map) k d bn).mono ?_;rintro e w5⟨rfl,bb,D5,bi,bf⟩)
    |(at_builtin;refine bT _ rfl _ _ 38 rfl (w.heap.size+1) 48 i0 (.agg #[Hp 0,Hp 0,Hp 0,Hp 0,Hp 0]) 5 40 underlying38 ar a2 a3 a4 rfl vZ _ _ _ rfl (q.alloc _) (Hk M.heap.size 0) 1 1 [Hp 12,Hp 0,Hp m.to,Hp 0,Hp 0] rfl rfl (pm _ _ _ _ _ _ _) (pz _ _ _ _ _) (by have:=n.o;unfold maxLen;omega) (oN n.o) (by simp;omega) ?_;intro v1 w4 x s u X;have b:=Xa<|vL o B q O S x s u;clear x s u X)
    |go_in)
   have R:=Xa<|pu b.row;have p:=Xa bb;refine⟨⟨_,scratch K m.to,out++[⟨12,0,m.to,0,0⟩],Xa bi,Xa bf,T,Xa (b.below.grown p (dU b.map.lt) λbp Y=>by cases Y;exact aA _),Xa (b.row.kept p<|aZ λe=>pD b.row e.symm),Xa b.ne,Xa ?_⟩,?_⟩;·rw[A.o,U.o,H.o,cK];rfl
   have j:=af.o;have r:=R.o;have h3:=n.o;rw[aQ]at r;simp only[bA,bO]at r;omega
end
theorem FE(m:Option Addr)(n c:Nat)(a:List Yg)(L B:Nat)(w:World)(ha:Hs (YY w L B m a))(s:Hs (n=a.length))(N:n<=1048576)(z:B<=w.heap.size) :
 Calls prog 11 #[.slice m n c] w λj t=>∃v,j=.returned v/\Below w.heap.size w t/\t.ownsRow w.heap.size 48 5 v (be a).length (ZP<|be a):=by
 let⟨H,C,E,F,G⟩:=fX Nm
 go_in
 go_wp2
 go_loopw [3,4] (λI l wr=>∃k:Nat,k<=n/\l=Hp k/\Hs (Below w.heap.size w wr)/\Hs (wr.ownsRow w.heap.size 48 5 I (be<|a.take k).length (ZP<|be (a.take k)))/\Hs ((be<|a.take k).length<=k)) λ_ l _=>n-(intOf l).toNat
 case atStart=>exact⟨0,aN _,rfl,Xa<|Xb (Below.refl _ _) _,Xa<|pp w,Xa<|aA _⟩
 obtain⟨k,K,rfl,f,e,g⟩:=hrel;by_cases M:k<n
 .have p:k<a.length:=oN s.o;obtain⟨b,P,rfl,⟨_,J⟩,A⟩:=(ha.keep<|f.mono z) k p;let⟨c0,c1,c2,c3,c4⟩:=A;have h:=Xa<|X7 _ _ p;have O:=f.size;generalize a[k]=x at*;generalize a.take k=i at*;by_cases r:x.op<=10
  .have d:Hs (be (i++[x])=be i++[x]):=Xa (by simp[be,List.filter_append,r]);go_wp2_with (at_builtin;refine fT _ rfl _ _ 38 rfl w.heap.size 48 H (.agg #[Hp 0,Hp 0,Hp 0,Hp 0,Hp 0]) 5 40 underlying38 C E F G rfl vZ _ _ _ rfl (e.alloc _) (Hk wr.heap.size 0) 1 1 [Hp x.op,Hp x.dst,Hp x.a,Hp x.b,Hp x.imm] rfl rfl (pm _ _ _ _ _ _ _) (pz _ _ _ _ _) (by have:=g.o;unfold maxLen;omega) (oN g.o) (by simp;omega) ?_)
   intro v1 Q q o D;have y:=Xa q;have u:=Xa (Xy (Xb f _) o (e.alloc _) (aA _) (by simp;omega));go_wp2;exact⟨⟨k+1,oM,gM,u,Xa (by rw[h.o,d.o,ll,aQ];exact y),Xa (by rw[h.o,d.o,aQ];have:=g.o;simp;omega)⟩,by simp[intOf];omega⟩
  have d:Hs (be (i++[x])=be i):=Xa (by simp[be,List.filter_append,r]);go_wp2;exact⟨⟨k+1,oM,gM,f,Xa (by rw[h.o,d.o];exact e),Xa (by rw[h.o,d.o];have:=g.o;omega)⟩,by simp[intOf];omega⟩
 have j:Hs (a.take k=a):=Xa<|aW (oN s.o);rw[j.o]at e;go_wp2;go_ret;exact⟨_,rfl,f,e⟩
noncomputable def NY:Code:=(f3.body.getD .skip)
noncomputable def Mo:Code:=cA<|cA (cB<|cA (cB<|cB (cB<|cB (cB<|cB (cB<|cB (cB NY))))))
noncomputable def Mq:Code:=cB<|cB (cA<|cA (cB Mo))
noncomputable def NV:Code:=cA<|cA (cB<|cA (cB<|cB Mq))
noncomputable def Mz:Code:=cA<|cA (cB<|cB (cB<|cB (cB Mq)))
structure LW where
 w:World
 D:Nat
 fb:Nat
 cb:Nat
 mb:Nat
 V:Nat
 xs:List Xe
 a1:Option Addr
 m1:Nat
 c1:Nat
 g:Nat
 mx:Int
 cs:List Int
 va:Option Addr
 ml:Nat
 vc:Nat
 M:List ag
structure LD(p:LW)(wr:World):Prop where
 low:Below p.w.heap.size p.w wr
 wD:p.w.heap.size<=p.D
 fbx:Bx wr p.fb #[.int .i64 (p.V:Int),.slice p.a1 p.m1 p.c1] 25
 cbx:Bx wr p.cb #[.int .i64 0,.slice (some ⟨p.g,0,none⟩) p.V p.V,.int .i64 p.mx] 29
 mbx:Bx wr p.mb #[.int .i64 p.mx,.slice p.va p.ml p.vc] 35
 lt:p.fb<p.D/\p.cb<p.D/\p.mb<p.D
 at_:Xp wr 0 p.D p.a1 p.xs
 mat:dp wr 0 p.D p.va p.M
 ia:Xf wr 0 p.D (some ⟨p.g,0,none⟩) p.cs
 sz:p.D<=wr.heap.size
theorem LD.keep{p:LW}{wr w':World}(h:LD p wr)(k:Below p.D wr w'):LD p w' :=
 ⟨h.low.trans<|k.mono h.wD,h.wD,h.fbx.keep<|k.block _ h.lt.1,h.cbx.keep<|k.block _ h.lt.2.1,h.mbx.keep<|k.block _ h.lt.2.2,h.lt,h.at_.keep k,h.mat.keep k,h.ia.keep k,aJ h.sz k.size⟩
theorem LD.next{p:LW}{wr:World}(h:LD p wr)(k:Below wr.heap.size wr w):LD p w:=h.keep<|k.mono h.sz
structure L6(p:LW):Prop where
 ok:Jy p.V p.xs
 n1:p.m1=p.xs.length
 n2:p.ml=p.M.length
 n3:p.ml<=3000
 cl:p.cs.length=p.V
 f:Mu p.xs p.cs p.M
 op:∀x∈p.xs,∀y∈x.is,y.op<=10
 il:∀y∈p.M,y.is.length<=4128
theorem LD.col{p:LW}{wr:World}(h:LD p wr)(f:L6 p)(d:0<=t/\t<p.V):∃k:Nat,t=k/\(k:Int)<p.V/\k<p.V/\p.g<p.D/\wr.cell? (Hk p.g k)=some (Hp<|Ht p.cs (k:Int)):=by
 obtain⟨k,rfl⟩:=bX d.1;have c:k<p.cs.length:=by rw[f.cl];omega
 let⟨b,o,e,g,a⟩:=h.ia k c;cases e;rw[aV]at a;refine⟨k,rfl,d.2,oM,g.2,?_⟩;unfold Ht;rw[dM,bF,aC c];exact a
structure NN where
 i:Nat
 c11:Value
 tl:List Value
theorem GF{Q:Exit->Act->World->Prop}(p:LW)(q:World)(b:Nat)(B:Option Addr)(h M L:Nat)(c0 c1 c2 C D E:Value)(f:Hs (L6 p))(s:b<p.xs.length)(HS:Hs (LD p q))(HX:Hs (YY q 0 q.heap.size B<|p.xs[b].is.map (ZR p.cs)))(J:Hs (h=p.xs[b].is.length))
 (R:∀(w:Value)(o:List Value)(X:World),o.length=284->Below q.heap.size q X->Q (.exit 2) ⟨(c0::c1::c2::Hn p.fb::Hn p.cb::Hp ((p.m1:Nat):Int)::Hn p.mb::Hp ((b:Nat):Int)::.slice B h M::Hn L::Hp ((h:Nat):Int)::w::C::D::E::o).toArray,[]⟩ X)
 (w:Value) (o:List Value) (v:o.length=284) :
 Code.wp prog (Code.loop NV) Q ⟨(c0::c1::c2::Hn p.fb::Hn p.cb::Hp ((p.m1:Nat):Int)::Hn p.mb::Hp ((b:Nat):Int)::.slice B h M::Hn L::Hp ((0:Nat):Int)::w::C::D::E::o).toArray,[]⟩ q:=by
 have HE:=Xa R;clear R;have a6:h<=4000:=by rw[J.o];exact(f.ok.lens _<|aH s).1
 have a0:b<p.m1:=by rw[f.n1];exact s
 have hm:p.m1<=1000:=by rw[f.n1];exact f.ok.okf.n2
 refine iY (λz wr=>∃x:NN,z=⟨(c0::c1::c2::Hn p.fb::Hn p.cb::Hp ((p.m1:Nat):Int)::Hn p.mb::Hp ((b:Nat):Int)::.slice B h M::Hn L::Hp ((x.i:Nat):Int)::x.c11::C::D::E::x.tl).toArray,[]⟩/\x.tl.length=284/\x.i<=h/\Hs (Below q.heap.size q wr)) (λz _=>h-(intOf<|z.tmps.getD 10 undef).toNat) ⟨⟨0,w,o⟩,rfl,v,aN _,Xa<|Below.refl _ _⟩ ?_;clear v;rintro z wr⟨⟨m,w,o⟩,rfl,v,hi,t⟩;dsimp only at v hi t |-
 conv=>arg 2;whnf
 obtain⟨ay,rfl⟩:=eo 15 284 o v;clear v;simp only[ae,Nat.reduceAdd];by_cases ao:m<h
 .have ap:(m:Int)<h:=oM;have az:(b:Int)<p.m1:=oM;have u:m<p.xs[b].is.length:=by rw[<-J.o];exact ao
  have c:=Xa<|HS.next t;have f1:=Bx.c c.fbx 1;have q1:=Bx.c c.cbx 1;have a2:=c.fbx.lt;have a1:=c.cbx.lt;obtain⟨gb,ob,P,⟨_,ab⟩,pa,pc,ia,ic,-,e1,-,-,T⟩:=c.at_ b s;rw[P]at f1;rw[<-J.o]at e1;let⟨gi,oi,S,⟨_,ac⟩,i0,i1,i2,i3,i4⟩:=T m u;rw[S]at e1;let⟨gx,ox,ax,⟨_,ad⟩,Y,i,j,k,Z⟩:=HX.keep t m (by rw[bK];exact u);subst ax;rw[cM]at Y i j k Z;have aq:=f.op _ (aH s) _ (aH u);have ar:=(f.ok.ops _ (aH s) _ (aH u)).1;have l:=f.ok.rdi _ (aH s) _ (aH u);have n:=f.ok.wri _ (aH s) _ (aH u);have a3:=aX ab c.sz;have a4:=aX ac c.sz;have a5:=aX ad t.size;clear T P S;generalize p.xs[b].is[m]=aa at*;let⟨a,F,y,N,im⟩:=aa;dsimp only[ZR]at i0 i1 i2 i3 i4 Y i j k Z aq ar;rcases(by omega:(1<=a/\a<=2)\/(3<=a/\a<=7)\/a=8\/a=9\/a=10)with r|r|r|r|r
  focus
   have e:dB a=true:=by simp[dB];omega
   have d:aB a=false:=by simp[aB];omega
   have b2:bB a=false:=by simp[bB];omega
   rw[e]at i;rw[d]at j;rw[b2]at k;simp only[gG,fD,Bool.false_eq_true]at i j k;obtain⟨W,rfl,U,V,g,O⟩:=c.col f (n F<|by simp[BW,e]);have t0:(a != 9)=true:=by simp;omega
   have t1:(a != 10)=true:=by simp;omega
   have t2:¬(3<=a):=oM;have t5:(a==9)=false:=by simp;omega
   have A:=aX g c.sz;clear e d b2 l n
  rotate_left
  focus
   have e:dB a=true:=by simp[dB];omega
   have d:aB a=true:=by simp[aB];omega
   have b2:bB a=true:=by simp[bB];omega
   rw[e]at i;rw[d]at j;rw[b2]at k;simp only[gG]at i j k;obtain⟨W,rfl,U,V,g,O⟩:=c.col f (n F<|by simp[BW,e]);obtain⟨K,rfl,H,I,g,G⟩:=c.col f (l y<|by simp[Ft,d]);obtain⟨kb,rfl,aj,al,g,g2⟩:=c.col f (l N<|by simp[Ft,b2]);have t0:(a != 9)=true:=by simp;omega
   have t1:(a != 10)=true:=by simp;omega
   have t2:3<=a:=oM;have t3:a<=10:=oM;have t4:a<=7:=oM;have A:=aX g c.sz;clear e d b2 l n
  rotate_left
  focus
   have e:dB a=true:=by simp[dB];omega
   have d:aB a=true:=by simp[aB];omega
   have b2:bB a=false:=by simp[bB];omega
   rw[e]at i;rw[d]at j;rw[b2]at k;simp only[gG,fD,Bool.false_eq_true]at i j k;obtain⟨W,rfl,U,V,g,O⟩:=c.col f (n F<|by simp[BW,e]);obtain⟨K,rfl,H,I,g,G⟩:=c.col f (l y<|by simp[Ft,d]);subst r;have A:=aX g c.sz;clear e d b2 l n
  rotate_left
  focus
   have e:dB a=false:=by simp[dB];omega
   have d:aB a=true:=by simp[aB];omega
   have b2:bB a=true:=by simp[bB];omega
   rw[e]at i;rw[d]at j;rw[b2]at k;simp only[gG,fD,Bool.false_eq_true]at i j k;obtain⟨K,rfl,H,I,g,G⟩:=c.col f (l y<|by simp[Ft,d]);obtain⟨kb,rfl,aj,al,g,g2⟩:=c.col f (l N<|by simp[Ft,b2]);subst r;have A:=aX g c.sz;clear e d b2 l n
  rotate_left
  focus
   have e:dB a=false:=by simp[dB];omega
   have d:aB a=true:=by simp[aB];omega
   have b2:bB a=false:=by simp[bB];omega
   rw[e]at i;rw[d]at j;rw[b2]at k;simp only[gG,fD,Bool.false_eq_true]at i j k;obtain⟨K,rfl,H,I,g,G⟩:=c.col f (l y<|by simp[Ft,d]);subst r;have A:=aX g c.sz;clear e d b2 l n
  rotate_left
  all_goals (
   go_wp2;go_region
   go_wp2;exact⟨⟨⟨m+1,_,_⟩,rfl,rfl,(by show m+1<=h;omega),Xa (Xb t _).drew⟩,by simp[intOf];omega⟩)
 have ap:¬(m:Int)<h:=oM;have af:m=h:=oM;subst af;go_wp2;exact HE _ _ _ (by rfl) t
structure NI where
 s:Nat
 c13:Value
 c14:Value
 tl:List Value
theorem vE{Q:Exit->Act->World->Prop}(p:LW)(g:World)(b w:Nat)(T R:Yj)(c0 c1 c2 B z A:Value)(a:Hs (L6 p))(M:b<p.xs.length)(W:Hs (LD p g))(Z:Hs (p.xs[b].te=R))(H:Hs (Bx g w #[Hp T.kind,Hp T.a,Hp T.to,Hp T.els] 41))(c:T.kind=R.kind)(ab:1<=R.kind/\R.kind<=3)(P:Hs (R.kind≠3->ju p.xs.length p.M T.to R.to))(N:Hs (R.kind=2->ju p.xs.length p.M T.els R.els))
 (O:∀(m n:Value)(d:List Value)(U:World),d.length=284->Below g.heap.size g U->Q (.exit 4) ⟨(c0::c1::c2::Hn p.fb::Hn p.cb::Hp ((p.m1:Nat):Int)::Hn p.mb::Hp ((b:Nat):Int)::B::Hn w::z::A::Hp ((2:Nat):Int)::m::n::d).toArray,[]⟩ U)
 (m n:Value) (d:List Value) (j:d.length=284) :
 Code.wp prog (Code.loop Mz) Q ⟨(c0::c1::c2::Hn p.fb::Hn p.cb::Hp ((p.m1:Nat):Int)::Hn p.mb::Hp ((b:Nat):Int)::B::Hn w::z::A::Hp ((0:Nat):Int)::m::n::d).toArray,[]⟩ g:=by
 have V:=Xa O;clear O;have al:b<p.m1:=by rw[a.n1];exact M
 have hm:p.m1<=1000:=by rw[a.n1];exact a.ok.okf.n2
 have ap:=a.n3;refine iY (λu wr=>∃x:NI,u=⟨(c0::c1::c2::Hn p.fb::Hn p.cb::Hp ((p.m1:Nat):Int)::Hn p.mb::Hp ((b:Nat):Int)::B::Hn w::z::A::Hp ((x.s:Nat):Int)::x.c13::x.c14::x.tl).toArray,[]⟩/\x.tl.length=284/\x.s<=2/\Hs (Below g.heap.size g wr)) (λu _=>2-(intOf<|u.tmps.getD 12 undef).toNat) ⟨⟨0,m,n,d⟩,rfl,j,aN _,Xa<|Below.refl _ _⟩ ?_;clear j;rintro u wr⟨⟨F,m,n,d⟩,rfl,j,hs,t⟩;dsimp only at j hs t |-
 conv=>arg 2;whnf
 obtain⟨af,rfl⟩:=eo 15 284 d j;clear j;simp only[ae,Nat.reduceAdd];have i:=Xa<|W.next t;have aj:(b:Int)<p.m1:=oM;have f1:=Bx.c i.fbx 1;have y:=Xa<|H.keep (t.block _ H.lt);have S:=Bx.c y 0;have t2:=Bx.c y 2;have t3:=Bx.c y 3;obtain⟨gb,ob,L,⟨_,ao⟩,pa,pc,ia,ic,-,-,⟨-,-,I,J⟩,-,-⟩:=i.at_ b M;rw[L]at f1;rw[Z.o]at I J;rw[c]at S;clear L c;let⟨l,ra,v,re⟩:=R;let⟨tk,ta,G,te⟩:=T;dsimp only at I J S t2 t3 ab P N;rcases(by omega:F=2\/F=0\/F=1)with h|h|h
 .subst h;go_wp2;exact V _ _ _ _ (by rfl) t
 .subst h;by_cases K:l=3
  .subst K;go_wp2;exact⟨⟨⟨1,_,_,_⟩,⟨rfl,rfl,rfl,rfl⟩,rfl,(by show 1<=2;omega)⟩,by simp[intOf]⟩
  have e:=Xa<|P.o K;rcases(by omega:l=1\/l=2)with h|h
  all_goals subst h
  all_goals (
   by_cases e3:G=v
   .subst e3;have E:(G != G)=false:=sP;clear e;go_wp2;exact⟨⟨⟨1,_,_,_⟩,⟨rfl,rfl,rfl,rfl⟩,rfl,(by show 1<=2;omega)⟩,by simp[intOf]⟩
   rcases e.o with f|⟨k,f,c,ad,r,e2⟩;·exact absurd f e3
   let⟨o,s⟩:=cV.1 r;obtain⟨X,om,q,⟨_,aa⟩,ja,jc,-,⟨-,-,C,-⟩,-⟩:=i.mat k o;rw[s,e2]at C;have D:=Bx.c i.mbx 1;rw[q]at D;rw[<-a.n1]at c;rw[<-a.n2]at o;subst f;have E:(((k:Nat):Int) != v)=true:=by simpa using e3
   have k1:¬((k:Int)<(p.m1:Int)):=oM;have k2:¬((p.ml:Int)<=(k:Int)):=oM;have k3:(k:Int)<(p.ml:Int):=oM;have ac:(v != v)=false:=sP;clear r s q c e3 e2 e;go_wp2;exact⟨⟨⟨1,_,_,_⟩,⟨rfl,rfl,rfl,rfl⟩,rfl,(by show 1<=2;omega)⟩,by simp[intOf]⟩)
 subst h;by_cases Y:l=2
 .subst Y;have e:=Xa<|N.o rfl;by_cases e3:te=re
  .subst e3;have E:(te != te)=false:=sP;clear e;go_wp2;exact⟨⟨⟨2,_,_,_⟩,⟨rfl,rfl,rfl,rfl⟩,rfl,(by show 2<=2;omega)⟩,by simp[intOf]⟩
  rcases e.o with f|⟨k,f,c,ad,r,e2⟩;·exact absurd f e3
  let⟨o,s⟩:=cV.1 r;obtain⟨X,om,q,⟨_,aa⟩,ja,jc,-,⟨-,-,C,-⟩,-⟩:=i.mat k o;rw[s,e2]at C;have D:=Bx.c i.mbx 1;rw[q]at D;rw[<-a.n1]at c;rw[<-a.n2]at o;subst f;have E:(((k:Nat):Int) != re)=true:=by simpa using e3
  have k1:¬((k:Int)<(p.m1:Int)):=oM;have k2:¬((p.ml:Int)<=(k:Int)):=oM;have k3:(k:Int)<(p.ml:Int):=oM;have ac:(re != re)=false:=sP;clear r s q c e3 e2 e;go_wp2;exact⟨⟨⟨2,_,_,_⟩,⟨rfl,rfl,rfl,rfl⟩,rfl,(by show 2<=2;omega)⟩,by simp[intOf]⟩
 rcases(by omega:l=1\/l=3)with h|h
 all_goals subst h
 all_goals (
  go_wp2;exact⟨⟨⟨2,_,_,_⟩,⟨rfl,rfl,rfl,rfl⟩,rfl,(by show 2<=2;omega)⟩,by simp[intOf]⟩)
structure NF where
 b:Nat
 c8:Value
 c9:Value
 c10:Value
 c11:Value
 c12:Value
 c13:Value
 c14:Value
 tl:List Value
theorem Gx{Q:Exit->Act->World->Prop}(p:LW)(wo:World)(c0 c1 c2:Value)(hQ:Hs (∀c (a8:Act) t ax w,Q (.panic c) (a8.put (some t) ax) w->Q (.panic c) a8 w))(d:Hs (L6 p))(HS:Hs (LD p wo))
 (bl:∀(F G D A E q r:Value)(f:List Value)(a:World),f.length=284->LD p a->Q (.exit 0) ⟨(c0::c1::c2::Hn p.fb::Hn p.cb::Hp ((p.m1:Nat):Int)::Hn p.mb::Hp ((p.ml:Nat):Int)::F::G::D::A::E::q::r::f).toArray,[]⟩ a)
 (F G D A E q r:Value) (f:List Value) (e:f.length=284) :
 Code.wp prog (Code.loop Mo) Q ⟨(c0::c1::c2::Hn p.fb::Hn p.cb::Hp ((p.m1:Nat):Int)::Hn p.mb::Hp ((0:Nat):Int)::F::G::D::A::E::q::r::f).toArray,[]⟩ wo:=by
 have HE:=Xa bl;clear bl;have hm:p.m1<=1000:=by rw[d.n1];exact d.ok.okf.n2
 have cp:=d.n3;refine iY (λS wr=>∃x:NF,S=⟨(c0::c1::c2::Hn p.fb::Hn p.cb::Hp ((p.m1:Nat):Int)::Hn p.mb::Hp ((x.b:Nat):Int)::x.c8::x.c9::x.c10::x.c11::x.c12::x.c13::x.c14::x.tl).toArray,[]⟩/\x.tl.length=284/\x.b<=p.ml/\Hs (LD p wr)) (λS _=>p.ml-(intOf<|S.tmps.getD 7 undef).toNat) ⟨⟨0,F,G,D,A,E,q,r,f⟩,rfl,e,aN _,HS⟩ ?_;clear e HS;rintro S wr⟨⟨b,F,G,D,A,E,q,r,f⟩,rfl,e,hb,i⟩;dsimp only at e hb i |-
 conv=>arg 2;whnf
 obtain⟨af,rfl⟩:=eo 15 284 f e;clear e;simp only[ae,Nat.reduceAdd];have T:=Bx.c i.mbx 1;by_cases b7:b<p.ml
 .have b8:(b:Int)<p.ml:=oM;have V:b<p.M.length:=by rw[<-d.n2];exact b7
  let⟨gm,om,bq,⟨_,bn⟩,ja,jc,H,d1,ap⟩:=i.mat b V;have Z:=Xa<|d.il _ (aH V);have C:=Xa<|d.f.big b V;have O:=Xa<|d.f.sml b V;rw[<-d.n1]at C;generalize p.M[b]=x at*;let⟨B,bv⟩:=x;dsimp only at H d1 ap Z C O;rw[bq]at T;have az:=Xa ap;have ay:=Xa d1;let⟨K,W⟩:∃K,K=B.length:=⟨_,rfl⟩;rw[<-W]at H;have a0:=Xa W;have cj:K<=4128:=by rw[W];exact Z
  clear ap W d1 bq;go_wp2_with fail
  refine(FE ja K jc B 0 p.D wr az a0 oM i.sz).mono ?_;rintro cf g⟨ax,rfl,aj,hv⟩;have ar:Xv g (λ_=>(0,0,0)) (0,0,0) wr.heap.size 48 5 ax (be B).length (ZP<|be B):=⟨hv,λ_ _=>rfl⟩;obtain⟨xa,xc,rfl⟩:=ar.form;have ad:=Xa ar.inss;have z:=Xa aj;have j:=Xa<|i.next aj;have ao:=aX bn i.sz;let⟨y0,y1,y2,y3⟩:=ay.keepS<|z.block _ ao;have bf:=oB z T i.mbx.lt;have ba:=oB z H ao;have cb:(be B).length<=4128:=aJ (fJ _ _) Z;clear hv ar aj az ay T H;let⟨tk,l,h,te⟩:=bv;dsimp only at y0 y1 y2 y3 C O;by_cases bz:b<p.m1
  .have b0:¬((p.m1:Int)<=(b:Int)):=oM;have s:b<p.xs.length:=by rw[<-d.n1];exact bz
   let⟨s1,s2,s3,s4,s5⟩:=O s;rw[s1]at ad;let⟨v,Y⟩:∃v,v=p.xs[b].is.length:=⟨_,rfl⟩;have bp:(be B).length=v:=by rw[s1,bK];exact Y.symm
   rw[bp]at cb |-;have br:=Xa Y;obtain⟨I,L,bi,⟨_,bm⟩,pa,pc,ia,ic,-,e1,⟨e2,e3,-,-⟩,-,-⟩:=j.at_ b s;have f1:=Bx.c j.fbx 1;have q1:=Bx.c j.cbx 1;rw[bi]at f1;rw[<-Y]at e1 s3;have aq:=d.ok.kind _<|aH s;have a3:=Xa<|d.ok.rdt _ (aH s);let⟨R,hR⟩:∃R,p.xs[b].te=R:=⟨_,rfl⟩;rw[hR]at e2 e3 s2 s3 s4 s5 aq a3;have a2:=Xa hR;have bt:=Xa s3;have a4:=Xa s4;have a5:=Xa s5;subst s2;have ch:(b:Int)<p.m1:=oM;have al:=aX bm j.sz;have b3:=j.fbx.lt;have b1:=j.cbx.lt;have ca:=j.mbx.lt;have b4:=aX ao z.size;have cq:((v:Int) != (v:Int))=false:=sP;have cm:(R.kind != R.kind)=false:=sP;clear s1 s3 s4 s5 hR Y bi bp O C;go_wp2;have a1:=Xa<|j.next (Xb (Below.refl _ _) (.cells #[Hp R.kind,Hp l,Hp h,Hp te] 41));have ab:Hs (Bx (g.alloc<|.cells #[Hp R.kind,Hp l,Hp h,Hp te] 41) g.heap.size #[Hp R.kind,Hp l,Hp h,Hp te] 41):=Xa<|Bx.new _ _ _;have a6:=Xa ((ad.keep<|Xb (Below.refl _ _) (.cells #[Hp R.kind,Hp l,Hp h,Hp te] 41)).mono (aN _) (by rw[aO];exact gX _):YY _ 0 (g.alloc<|.cells #[Hp R.kind,Hp l,Hp h,Hp te] 41).heap.size xa _);have hK:∀k o y,k < g.heap.size->g.cell? (Hk k o)=some y->(g.alloc<|.cells #[Hp R.kind,Hp l,Hp h,Hp te] 41).cell? (Hk k o)=some y:=λk o y h1 h2=>(bP _ _ (Hk k o) h1).trans h2;have bc:=hK _ _ _ b3 f1;have cc:=hK _ _ _ b1 q1;have bw:=hK _ _ _ al e1;have bx:=hK _ _ _ al e2;have bb:=hK _ _ _ al e3;have bd:=hK _ _ _ ca bf;have a9:=hK _ _ _ b4 ba;have cd:(g.alloc<|.cells #[Hp R.kind,Hp l,Hp h,Hp te] 41).cell? (Hk g.heap.size 0)=some (Hp R.kind):=Bx.cell ab rfl;have ce:Hs (g.heap.size<(g.alloc<|.cells #[Hp R.kind,Hp l,Hp h,Hp te] 41).heap.size/\wr.heap.size<=g.heap.size):=Xa ⟨sP,z.size⟩;clear hK f1 q1 e1 e2 e3 bf ba ad j z;generalize g.alloc _=w2 at*;generalize g.heap.size=m at*;refine Y7 (λa=>a.cell? (Hk p.fb 1)=some (Hm I L p.m1 p.c1)/\a.cell? (Hk I<|L+b*6+1)=some (.slice ia v ic)/\a.cell? (Hk m 0)=some (Hp R.kind)/\a.cell? (Hk I<|L+b*6+2)=some (Hp R.kind)) λhHeld=>?_;refine X0 0 ?_;refine X0 1 ?_;refine X0 2 ?_;refine X0 3 ?_;refine X0 4 ?_;refine X0 5 ?_;refine X0 6 ?_;refine X0 7 ?_;refine X0 8 ?_;refine X0 9 ?_;refine X0 10 ?_;refine X0 11 ?_;refine X0 12 ?_;refine X0 13 ?_;refine X0 14 ?_;refine X0 15 ?_;refine X0 16 ?_;refine X0 17 ?_;refine X0 18 ?_;refine X0 19 ?_;refine X0 20 ?_;refine X0 21 ?_;refine Yq ?_;clear hHeld;go_wp2_with fail
   have N:=Xa<|a1.next (Below.refl _ _).drew;have ac:Hs (Bx w2.drew m #[Hp R.kind,Hp l,Hp h,Hp te] 41):=ab;have a7:=Xa<|a6.keep (Below.refl _ _).drew;refine GF p w2.drew b xa v xc m _ _ _ _ _ _ d s N a7 br ?_ _ _ (by rfl);intro A f M e U;obtain⟨af,rfl⟩:=eo 15 284 f e;clear e;simp only[ae,Nat.reduceAdd];have n:=Xa<|N.next U;have P:=Xa<|ac.keep (U.block _ ac.lt);have t0:=Bx.c P 0;have t1:=Bx.c P 1;have q1:=Bx.c n.cbx 1;have h4:=n.sz;have hK:∀k o y,k < p.D->w2.cell? (Hk k o)=some y->M.cell? (Hk k o)=some y:=λk o y h1 h2=>oB U h2<|aX h1 N.sz;have f1:=hK _ _ _ i.lt.1 bc;have e3:=hK _ _ _ bm bb;have T:=hK _ _ _ i.lt.2.2 bd;have H:=hK _ _ _ bn a9;clear hK U bc cc bw bx bb bd a9 cd N ac a7 a1 ab a6;by_cases X:R.kind=1
   .have b6:(R.kind != 1)=false:=by simpa using X
    go_wp2_with fail
    refine Y7 (λa=>a.cell? (Hk m 0)=some (Hp R.kind)) λhHeld=>?_;refine X0 0 ?_;refine X0 1 ?_;refine X0 2 ?_;refine X0 3 ?_;refine tX 4 ?_;refine tX 5 ?_;refine tX 6 ?_;refine tX 7 ?_;refine tX 8 ?_;refine tX 9 ?_;refine tX 10 ?_;refine tX 11 ?_;refine tX 12 ?_;refine tX 13 ?_;refine tX 14 ?_;refine tX 15 ?_;refine tX 16 ?_;refine tX 17 ?_;refine tX 18 ?_;refine tX 19 ?_;refine tX 20 ?_;refine tX 21 ?_;refine tX 22 ?_;refine tX 23 ?_;refine tX 24 ?_;refine tX 25 ?_;refine tX 26 ?_;refine tX 27 ?_;refine tX 28 ?_;refine tX 29 ?_;refine X0 30 ?_;refine Yq ?_;clear hHeld;go_wp2_with fail
    refine vE p M.drew b m ⟨R.kind,l,h,te⟩ R _ _ _ _ _ _ d s (Xa<|n.next (Below.refl _ _).drew) a2 (P:Hs (Bx M.drew m _ _)) rfl aq a4 a5 ?_ _ _ _ (by rfl);intro q r f w5 e J;obtain⟨af,rfl⟩:=eo 15 284 f e;clear e;simp only[ae,Nat.reduceAdd];have aa:=Xa<|(n.next (Below.refl _ _).drew).next J;clear J;go_wp2;exact⟨⟨⟨b+1,_,_,_,_,_,_,_,_⟩,rfl,rfl,(by show b+1<=p.ml;omega),aa⟩,by simp[intOf];omega⟩
   have b6:(R.kind != 1)=true:=by simpa using X
   let⟨z1,z2⟩:=bt X;let⟨u,bo,ck,cl,ci,gc⟩:=n.col d (a3 R.a<|by simp[G2,X]);rw[bo]at e3 z1;subst z1;have HJ:=Xa<|a0.trans z2;have hJ:=HJ.o;subst hJ;have cg:(Ht p.cs (u:Int) != Ht p.cs (u:Int))=false:=sP;clear z2 bo;go_wp2_with fail
   refine Y7 (λa=>a.cell? (Hk m 0)=some (Hp R.kind)/\a.cell? (Hk m 1)=some (Hp<|Ht p.cs (u:Int))/\a.cell? (Hk p.cb 1)=some (Hl p.g p.V p.V)/\a.cell? (Hk p.fb 1)=some (Hm I L p.m1 p.c1)/\a.cell? (Hk I<|L+b*6+2+1)=some (Hp u)/\a.cell? (Hk p.g u)=some (Hp<|Ht p.cs (u:Int))/\a.cell? (Hk p.mb 1)=some (Hm gm om p.ml p.vc)/\a.cell? (Hk gm<|om+b*5)=some (.slice ja K jc)) λhHeld=>?_;refine X0 0 ?_;refine X0 1 ?_;refine X0 2 ?_;refine X0 3 ?_;refine X0 4 ?_;refine X0 5 ?_;refine X0 6 ?_;refine X0 7 ?_;refine X0 8 ?_;refine X0 9 ?_;refine X0 10 ?_;refine X0 11 ?_;refine X0 12 ?_;refine X0 13 ?_;refine X0 14 ?_;refine X0 15 ?_;refine X0 16 ?_;refine X0 17 ?_;refine X0 18 ?_;refine X0 19 ?_;refine X0 20 ?_;refine X0 21 ?_;refine X0 22 ?_;refine X0 23 ?_;refine X0 24 ?_;refine X0 25 ?_;refine X0 26 ?_;refine X0 27 ?_;refine X0 28 ?_;refine X0 29 ?_;refine X0 30 ?_;refine Yq ?_;clear hHeld;go_wp2_with fail
   refine vE p M.drew b m ⟨R.kind,Ht p.cs (u:Int),h,te⟩ R _ _ _ _ _ _ d s (Xa<|n.next (Below.refl _ _).drew) a2 (P:Hs (Bx M.drew m _ _)) rfl aq a4 a5 ?_ _ _ _ (by rfl);intro q r f w5 e J;obtain⟨af,rfl⟩:=eo 15 284 f e;clear e;simp only[ae,Nat.reduceAdd];have aa:=Xa<|(n.next (Below.refl _ _).drew).next J;clear J;go_wp2;exact⟨⟨⟨b+1,_,_,_,_,_,_,_,_⟩,rfl,rfl,(by show b+1<=p.ml;omega),aa⟩,by simp[intOf];omega⟩
  have b0:(p.m1:Int)<=(b:Int):=oM;let⟨s1,s2,s3,s4⟩:=C oM;rw[s1,bO];subst s2;have h3:¬(h<0):=oM;have h4:¬((p.m1:Int)<=h):=oM;go_wp2;exact⟨⟨⟨b+1,_,_,_,_,_,_,_,_⟩,rfl,rfl,(by show b+1<=p.ml;omega),Xa<|j.next (Xb (Below.refl _ _) _)⟩,by simp[intOf];omega⟩
 have b8:¬(b:Int)<p.ml:=oM;have b5:b=p.ml:=oM;rw[b5];have co:¬(p.ml:Int)<p.ml:=oM;go_wp2;exact HE _ _ _ _ _ _ _ _ _ (by rfl) i
theorem GJ(c:Jy n x)(d:m<x.length)(e:t∈AQ x 0 (m:Int)):∀i (h:i<x[m].ps.length),ZX (n:Int) (AQ x 0 (m:Int)).length x[m].ps[i]=true:=λi h=>by
 have a:=c.phd _ (aH d) _ (aH h);have b:=c.pha m d _<|aH h;have j:=eJ e;unfold ZX Jt Tp;simp only[bY,bD,dV,gG];exact⟨⟨a.1,a.2⟩,⟨⟨oM,b.1⟩,λg f=>b.2 g f⟩⟩
theorem Fk(i V:Nat)(x:Option Addr)(n c:Nat)(a:List Xe)(bi ap:Nat)(ac:Option Addr)(A cc:Nat)(d:List Int)(Lc Bc:Nat)(B:Option Addr)(G:Nat)(L2 B2:Nat)(f4 f5:Value)(p t:Nat)(w:World)(N:Hs (Bx w i #[Hp V,.slice x n c,.slice ac A cc,.slice B n G,f4,f5] 74))(ha:Hs (Xp w bi ap x a))(z:Hs (n=a.length))(hB:ap<=w.heap.size)(ho:Hs (Jy V a))(hc:Hs (Xf w Lc Bc ac d))(aa:Hs (A=d.length))(bo:Hs (A=V))(bl:Bc<=w.heap.size)(dk:Hs (XR w L2 B2 B ((List.range n).map λQ:Nat=>AQ a 0 (Q:Int))))(c7:B2<=w.heap.size)(hO:Hs (Yy w))(b6:t<n)(hp:Hs ((p:Int)∈AQ a 0 (t:Int)))(db:Hs (∀al∈d,-9223372036854775808<=al/\al<=9223372036854775807)) :
 Calls prog 62 #[Hn i,Hp p,Hp t] w λe f=>∃C,e=.returned C/\C≠Hq/\Below w.heap.size w f/\f.ownsRow w.heap.size 48 5 C (ID d a p (t:Int)).length (ZP<|ID d a p (t:Int)):=by
 let⟨i0,df,dn,ds,du⟩:=fX Nf;have af:t<a.length:=oN z.o;have ay:=Xa<|F8 ho af hp;have U:Hs (IW d a p (t:Int)=(Ha (de (AQ a 0 (t:Int)) (p:Int)) (ik a (t:Int))).map λH=>⟨Ht d H.1,Ht d H.2⟩):=Xa rfl;have Y:Hs (Ha (de (AQ a 0 (t:Int)) (p:Int)) (ik a (t:Int))=Ha (de (AQ a 0 (t:Int)) (p:Int)) a[t].ps):=Xa (by rw[vt a af]);have cj:Hs (ID d a p (t:Int)=dv (IW d a p (t:Int))):=Xa rfl;have el:n<=1000:=oP z.o ho.okf.n2
 have X:=Xa (ho.lens _<|aH af).2;have I:Hs (∀W,Below w.heap.size w W->Calls prog 106 #[.agg #[Hp V,.slice x n c],.slice B n G,Hp p,Hp t] W λe f=>∃s u,e=.returned (.agg #[Hp t,.slice s a[t].ps.length u])/\Below W.heap.size W f/\ff f W.heap.size f.heap.size s (Ha (de (AQ a 0 (t:Int)) (p:Int)) a[t].ps)):=Xa λW hW=>Fu (V:Int) x n c B n G p t a _ a[t] (AQ a 0 (t:Int)) (V:Int) bi ap L2 B2 W (Xa<|ha.keep (hW.mono hB)) z (oN hW.size) (Xa<|dk.keep (hW.mono c7)) (Xa sP) (oN hW.size) b6 b6 (Xa λ_=>rfl) (Xa λK=>sP) (oP (YO (t:Int) a 0) z.o) (oN X.o) hp (Xa<|GJ ho af hp);have O:=N.lt;have b0:=Bx.c N 0;have b1:=Bx.c N 1;have b3:=Bx.c N 3;let⟨T,hT⟩:∃T,T=Ha (de (AQ a 0 (t:Int)) (p:Int)) (ik a (t:Int)):=⟨_,rfl⟩;rw[<-hT]at ay U Y;rw[<-Y.o]at I;have E:Hs (a[t].ps.length=T.length):=Xa (by rw[Y.o];simp[Ha]);rw[E.o]at I X;let⟨o,hm⟩:∃o,o=T.length:=⟨_,rfl⟩;rw[<-hm]at I X;have HM:=Xa hm;clear hm hT Y E;have ek:=X.o;have bb:Hs (Calls prog 106 #[.agg #[Hp V,.slice x n c],.slice B n G,Hp p,Hp t] (w.alloc<|.cells #[] 192).drew λe f=>∃s u,e=.returned (.agg #[Hp t,.slice s o u])/\f.cell? (Hk i 0)=some (Hp V)/\f.cell? (Hk i 1)=some (.slice x n c)/\f.cell? (Hk i 3)=some (.slice B n G)/\Hs (Below (w.heap.size+1) (w.alloc<|.cells #[] 192).drew f/\ff f (w.heap.size+1) f.heap.size s T)/\(∀W,Sem.run prog (Instr.field 187 (.agg #[Hp t,.slice s o u]) 1) W=.ok (.slice s o u) W)):=Xa ((I (w.alloc<|.cells #[] 192).drew (Xb (Below.refl _ _) _).drew).mono (by
  rintro e g⟨s,u,rfl,v,L⟩;have b5:(w.alloc<|.cells #[] 192).drew.heap.size=w.heap.size+1:=by show(w.alloc _).heap.size=_;simp
  rw[b5]at v L;have kw:=(Xb (Below.refl w.heap.size w) (.cells #[] 192)).drew.trans (v.mono<|gX _);exact⟨s,u,rfl,oB kw b0 O,oB kw b1 O,oB kw b3 O,Xa ⟨v,L⟩,λW=>kR⟩))
 clear I
 go_in
 go_wp2_with fail
 go_region_held3 (λf=>f.cell? (Hk i 0)=some (Hp V)/\f.cell? (Hk i 1)=some (.slice x n c)/\f.cell? (Hk i 3)=some (.slice B n G)) (go_keep)
  (first
   |(go_at_call 106;with_reducible refine bb.o.mono ?_;rintro e g⟨s,u,rfl,f0,f1,f3,a9,dc⟩))
 let⟨v,L⟩:=a9.o;have a8:=Xa L;have dw:=ay;have em:w.heap.size+1<=g.heap.size:=by have:=v.size;have b5:(w.alloc<|.cells #[] 192).drew.heap.size=w.heap.size+1:=(by show(w.alloc _).heap.size=_;simp);omega
 have ce:=Xa<|(Xb (Below.refl w.heap.size w) (.cells #[] 192)).drew.trans (v.mono<|gX _);have bc:Hs (g.ownsRow w.heap.size 192 2 (Hl w.heap.size 0 0) 0 []):=Xa (by
  have h0:=eI (base:=w.heap.size) (e:=192) (size:=2) w #[] 0 (aA _) sP rfl;have h1:Xv (w.alloc<|.cells #[] 192).drew (λb=>if b=w.heap.size then (0,0,0)else (1,0,0)) (0,0,0) w.heap.size 192 2 (Hl w.heap.size 0 0) 0 []:=⟨h0,λb e=>aU<|by injection e with e;exact e.symm⟩;exact(h1.keep (w':=g) (λb _ h2 e=>⟨v.block b (by
   by_cases hq:b=w.heap.size;·omega
   rw[aM hq]at e;simp at e),e⟩)).own)
 clear L v a9 bb dc b0 b1 b3 f0 f1 f3;go_wp2
 go_loopw [7,24] (λC Q wr=>∃j:Nat,j<=o/\Q=Hp j/\Hs (Below w.heap.size w wr/\YA (w.heap.size+1) g.heap.size g wr/\g.heap.size<=wr.heap.size)/\Hs (wr.ownsRow w.heap.size 192 2 C ((IW d a p (t:Int)).take j).length (I1<|(IW d a p (t:Int)).take j))/\Hs (C≠Hq/\∀b,C.ownBlock=some b->b=w.heap.size\/g.heap.size<=b)) λ_ Q _=>o-(intOf Q).toNat
 case atStart=>exact⟨0,aN _,rfl,Xa ⟨ce,YA.refl _ _ _,aA _⟩,bc,Xa ⟨sP,λb e=>bC<|by injection e with e;exact e.symm⟩⟩
 obtain⟨j,hj,rfl,k,D,HV⟩:=hrel;have J:Hs ((IW d a p (t:Int)).length=o):=Xa (by rw[U.o,bK];exact HM.symm);by_cases ej:j<o
 .have bv:j<T.length:=oN HM.o
  have a4:=ay _<|aH bv;obtain⟨ab,ao,rfl,⟨d3,d2⟩,bp,bq⟩:=(a8.keepS k.2.1) j bv;have ar:Hs ((IW d a p (t:Int)).take (j+1)=(IW d a p (t:Int)).take j++[⟨Ht d T[j].1,Ht d T[j].2⟩]):=Xa (by
   rw[bN<|oN J.o];congr 1;simp[U.o])
  have E:Hs (((IW d a p (t:Int)).take j).length=j):=Xa (by rw[dH,J.o];omega);obtain⟨y,Z,l,b8,ed,rfl,d4,a0⟩:=pt (hc.keep<|k.1.mono bl) a4.1.1 (oP aa.o bo.o);let⟨d0,d1,m,ca,ef,a2,d5,a1⟩:=pt (hc.keep<|k.1.mono bl) a4.2.1 (oP aa.o bo.o);injection a2 with a2;injection a2 with c9 da;subst c9 da;rw[b8]at bp a0 ar;rw[ca]at bq a1 ar;have ee:(l:Int)<(A:Int):=oN aa.o;have eg:(m:Int)<(A:Int):=oN aa.o
  have ec:(j:Int)<(o:Int):=oM;have c8:=k.2.2;have di:i<wr.heap.size:=oM;have br:y<wr.heap.size:=oM;have ei:i≠wr.heap.size:=oM;have ea:y≠wr.heap.size:=oM;have l2:Cl wr i 2 (Hm y Z A cc):=(k.1.cell (p:=Hk i 2) O).trans (Bx.cell N rfl);let⟨r,q,P⟩:∃r q,u7=.slice r ((IW d a p (t:Int)).take j).length q:=by
   rcases Vc D with⟨e,K,_⟩|⟨r,q,e,_⟩;·exact absurd e HV.1
   exact⟨_,_,e⟩
  rw[E.o]at P;subst P;generalize Ht d (l:Int)=z1 at*;generalize Ht d (m:Int)=z2 at*;clear b8 ca a4;go_wp2;have M:=(Xb (Below.refl wr.heap.size wr) (.cells #[Hp l,Hp m] 190));have az:=Bx.new wr #[Hp l,Hp m] 190;have t0:(wr.alloc<|.cells #[Hp l,Hp m] 190).cell? (Hk wr.heap.size 0)=some (Hp l):=Bx.cell az rfl;have t1:(wr.alloc<|.cells #[Hp l,Hp m] 190).cell? (Hk wr.heap.size 1)=some (Hp m):=Bx.cell az rfl;have s2:=oB M l2 di;have s3:=oB M a0 br;have s4:=oB M a1 br;have ax:Hs ((wr.alloc<|.cells #[Hp l,Hp m] 190).ownsRow w.heap.size 192 2 (.slice r j q) j (I1<|(IW d a p (t:Int)).take j)):=Xa (World.ownsRow.alloc (by have:=D.o;rw[E.o]at this;exact this) _);have ba:Hs (Below w.heap.size w (wr.alloc<|.cells #[Hp l,Hp m] 190)/\YA (w.heap.size+1) g.heap.size g (wr.alloc<|.cells #[Hp l,Hp m] 190)):=Xa ⟨k.1.alloc k.1.size _,k.2.1.trans<|YA.of_below (M.mono c8)⟩;have cv:Hs ((wr.alloc<|.cells #[Hp l,Hp m] 190).heap.size=wr.heap.size+1):=Xa sP;have cz:=Xa k.1.size;have dd:=Xa (λb e=>by have:=D.o;exact(this.lt b e).2);clear M az l2 a0 a1 bp bq D k;generalize wr.alloc _=h at*;have dl:=cv.o;have er:=cz.o;generalize wr.heap.size=R at*;have b7:R<h.heap.size:=oM;have dj:i<h.heap.size:=oM;have bt:y<h.heap.size:=oM;have eq:w.heap.size<=h.heap.size:=oM;have ep:g.heap.size<=h.heap.size:=oM;clear dl;refine Y7 (λf=>f.cell? (Hk i 2)=some (Hm y Z A cc)/\f.cell? (Hk R 0)=some (Hp l)/\f.cell? (Hk R 1)=some (Hp m)/\f.cell? (Hk y<|Z+l)=some (Hp z1)/\f.cell? (Hk y<|Z+m)=some (Hp z2)) λhHeld=>?_;refine Xn 0 ?_;refine Xn 1 ?_;refine Xn 2 ?_;refine Xn 3 ?_;refine Xn 4 ?_;refine Xn 5 ?_;refine Xn 6 ?_;refine Xn 7 ?_;refine Xn 8 ?_;refine Xn 9 ?_;refine Xn 10 ?_;refine Xn 11 ?_;refine Xn 12 ?_;refine Xn 13 ?_;refine Xn 14 ?_;refine Xn 15 ?_;refine Xn 16 ?_;refine Xn 17 ?_;refine Xs 18 λc6 hK=>?_;go_simp;refine hK _ _ kP λhHeld=>?_;clear hK;refine Xs 19 λc6 hK=>?_;refine dm rfl _ _ 184 rfl w.heap.size 192 i0 (.agg #[Hp 0,Hp 0]) 2 16 underlying184 df dn ds du rfl vZ (.slice r j q) j (I1<|(IW d a p (t:Int)).take j) rfl ?s1 (Hk h.heap.size 0) 1 1 [Hp z1,Hp z2] rfl rfl ?s2 ?s3 ?s4 ?s5 ?s6 ?_
  case s1=>exact World.ownsRow.alloc (w:=h.drew) ax _
  case s2=>exact GP _ _ _ _
  case s3=>intro es hu;simp at hu;rcases hu with rfl|rfl<;>rfl
  case s4=>unfold maxLen;omega
  case s5=>omega
  case s6=>simp;omega
  intro v8 S b4 ad bx bm;have bf:Hs ((h.drew.alloc<|.cells #[Hp z1,Hp z2] 192).ownsRow w.heap.size 192 2 (.slice r j q) j (I1<|(IW d a p (t:Int)).take j)):=Xa<|World.ownsRow.alloc (w:=h.drew) ax _;have k8:∀b,b<h.heap.size->some b≠(Value.slice r j q).ownBlock->S.heap[b]?=h.heap[b]?:=λb hb a3=>(ad.block b (by simp;omega) a3).trans (Below.heap_alloc h.drew _ _ hb)
  have ci:Hs (g.heap.size<=S.heap.size):=Xa (by have:=ad.size;simp at this;omega);have ch:=Xa (Xy (Below.alloc ba.1.drew (show w.heap.size<=h.heap.size by omega) _) ad bf (aA _) (by simp;omega));have cr:Hs (YA (w.heap.size+1) g.heap.size g S):=Xa (λb h1 h2=>(k8 b oM λe=>by have:=HV.2 b e.symm;omega).trans (ba.2 b h1 h2));have cp:Hs (S.ownsRow w.heap.size 192 2 v8 ((IW d a p (t:Int)).take (j+1)).length (I1<|(IW d a p (t:Int)).take (j+1))):=Xa (by
   rw[ar.o,GM,aQ,E.o];exact b4)
  have cx:Hs (v8≠Hq/\∀b,v8.ownBlock=some b->b=w.heap.size\/g.heap.size<=b):=Xa ⟨λe=>by have:=(bx.1 e).2;omega,λb e=>by
   rcases bm with K|K;·rw[K]at e;exact HV.2 b e
   rw[K]at e;injection e with e;right;rw[<-e];simp;omega⟩
  have F:∀b a6,b<h.heap.size->some b≠(Value.slice r j q).ownBlock->S.cell? (Hk b a6)=h.cell? (Hk b a6):=λb a6 hb a3=>Xc<|k8 b hb a3;have aj:∀b,b<w.heap.size->some b≠(Value.slice r j q).ownBlock:=λb hb e=>by have:=(ax.lt b e.symm).1;omega
  have a5:some R≠(Value.slice r j q).ownBlock:=λe=>by have:=dd R e.symm;omega
  refine hK _ _ ⟨(F _ _ dj<|aj _ O).trans s2,(F _ _ b7 a5).trans t0,(F _ _ b7 a5).trans t1,(F _ _ bt<|aj _ oM).trans s3,(F _ _ bt<|aj _ oM).trans s4⟩ λhHeld=>?_;clear hK b4 ad bx bm F k8 aj a5 bf
  try simp only[xX]
  refine Xn 20 ?_;refine Yq ?_;clear hHeld;go_wp2;exact⟨⟨j+1,oM,gM,Xa ⟨ch,cr,ci⟩,cp,cx⟩,by simp[intOf];omega⟩
 have HE:Hs ((IW d a p (t:Int)).take j=IW d a p (t:Int)):=Xa<|aW (by rw[J.o];omega)
 have bd:=D;rw[HE.o]at bd;let⟨aq,cq,P,_,_,bw⟩:=FU bd;rw[J.o]at P;have cl:=Xa bw;subst P;have eb:¬(j:Int)<(o:Int):=oM;have ck:Hs (∀a7∈IW d a p (t:Int),-9223372036854775808<=a7.to/\a7.to<=9223372036854775807):=Xa (λa7 z=>by
  rw[U.o]at z;obtain⟨H,_,rfl⟩:=aY.1 z;show -9223372036854775808<=Ht d H.1/\Ht d H.1<=9223372036854775807;unfold Ht;rw[bF];cases hq:d[H.1.toNat]? with
  |none=>simp
  |some al=>exact db al<|eN hq)
 clear bw D a8 bc;go_wp2_with fail
 refine(F9 aq o cq (IW d a p (t:Int)) w.heap.size wr.heap.size wr cl (Xa J.symm) oM (aA _) ck (Xa<|hO.keep k.1 hO.1)).mono ?_;rintro e w5⟨v5,rfl,cd,bn,bz⟩;have cf:=Xa<|Xg k.1 bn;have cm:Hs (w5.ownsRow w.heap.size 48 5 v5 (ID d a p (t:Int)).length (ZP<|ID d a p (t:Int))):=Xa (by
  rw[cj.o];exact Zk bz k.1.size)
 have cw:=Xa cd;clear bn bz cd;go_wp2;go_ret;exact⟨_,rfl,cw,cf,cm⟩
section
theorem uN(iv:Nat->Value)(A:List ag)(x:ag)(B:List ag):H9 iv (A++x::B)=H9 iv A++(IT (iv A.length) x.te++Yu (λi (x:ag)=>IT (iv i) x.te) (A.length+1) B):=by
 unfold H9;rw[uR,aV];rfl
theorem uV{iv:Nat->Value}{xs:List ag}{i q:Nat}(h:i<xs.length)(hq:q<5){u v':Value}{x':ag}(e:(IT (iv i) xs[i].te).set q u=IT v' x'.te):(H9 iv xs).set (i*5+q) u=H9 (λj=>if j=i then v' else iv j) (xs.set i x'):=by
 have e1:xs=xs.take i++xs[i]::xs.drop (i+1):=by rw[<-gZ h,hH]
 have b:(xs.take i).length=i:=by rw[dH];omega
 have e2:xs.set i x'=xs.take i++x':: xs.drop (i+1):=by rw[List.set_eq_take_append_cons_drop,aU h]
 have d:H9 (λj=>if j=i then v' else iv j) (xs.take i)=H9 iv (xs.take i):=uP λj f=>aM oM;rw[e2,uN,b,d,aU rfl]
 conv=>lhs;rw[e1]
 rw[uN,b,List.set_append_right _ _ (by rw[vz,b];omega),vz,b,Nat.add_sub_cancel_left,List.set_append_left _ _ (by simp[IT];omega),e];congr 2;exact uS _ _ _ _ _ λj x=>by show IT (iv _) _=IT (if _ then _ else _) _;rw[aM oM]
variable {w wr w8: World} {lab lab': Nat -> Nat×Nat×Nat} {base: Nat} {K J: Nat} {xs: List ag} {iv: Nat -> Value}
theorem IB.turn{g n c:Nat}(h:IB w lab base (.slice (some ⟨g,0,none⟩) n c) K J xs iv)(t:n=xs.length)(o:K≠J){i q:Nat}(s:i<xs.length)(hq:q<5)(u f:Value)(d:ag)(p:(IT (iv i) xs[i].te).set q u=IT f d.te)
 (v:Xv w lab (J,i,0) base 48 5 f d.is.length (ZP d.is)):IB (w.setCell ⟨g,i*5+q,none⟩ u) lab base (.slice (some ⟨g,0,none⟩) n c) K J (xs.set i d) (λj=>if j=i then f else iv j):=by
 subst t;have r:=h.blks.blk.2;have m:∀j b,lab b=(J,j,0)->b≠g:=λj b e q=>o (by rw[q,r]at e;injection e);refine⟨?_,λj l=>?_⟩
 .have:=h.blks.set (i*5+q) u;rw[uV s hq p]at this;rw[bL];exact this
 rw[bL]at l;by_cases e:j=i
 .subst e;simp only[gG,cQ];exact v.sp (XW.put g _ u) λb e=>m _ b e
 simp only[aM e,bI λq=>e q.symm];exact(h.ins j l).sp (XW.put g _ u) λb e=>m _ b e
theorem IB.other{v:Value}(h:IB w lab base v K J xs iv){i:Nat}(f:K≠J)(k:XW w w8 lab lab' base λb=>lab b≠(J,i,0)):Xv w8 lab' (K,0,0) base 43 5 v xs.length (H9 iv xs)/\∀j (d:j<xs.length),j≠i->Xv w8 lab' (J,j,0) base 48 5 (iv j) xs[j].is.length (ZP xs[j].is) :=
 ⟨h.blks.sp k λb e q=>f (by rw[e]at q;injection q),λj d g=>(h.ins j d).sp k λb e q=>g<|by rw[e]at q;injection q with _ q;injection q⟩
structure La where
 w:World
 base:Nat
 L2:Nat
 B2:Nat
structure IP(w0:La)(wr:World)(lab:Nat->Nat×Nat×Nat)(lb:Nat)(V:Int)(a:Option Addr)(n c:Nat)(ac:Option Addr)(nc cc:Nat)(pa:Option Addr)(pc:Nat)(k:Int)(mv:Value)(M:List ag)(iv:Nat->Value):Prop where
 low:Below w0.base w0.w wr
 bx:Bx wr lb #[.int .i64 V,.slice a n c,.slice ac nc cc,.slice pa n pc,.int .i64 k,mv] 74
 lw:w0.base<=lb
 m:IB wr lab w0.base mv 1 3 M iv
 fr:∀q,wr.heap.size<=q->lab q=(0,0,0)
 l0:lab lb=(0,0,0)
 sm:YA w0.L2 w0.B2 w0.w wr
 lp:∀b,w0.L2<=b->b<w0.B2->lab b=(0,0,0)
 gd:w0.base<=w0.L2/\w0.B2<=w0.w.heap.size/\w0.base<=w0.w.heap.size/\¬(w0.L2<=lb/\lb<w0.B2)
variable {w0: La} {lb: Nat} {V: Int} {a: Option Addr} {n c: Nat} {ac: Option Addr} {nc cc: Nat} {pa: Option Addr} {pc: Nat} {k: Int} {mv v8: Value} {M: List ag}
theorem IP.bs(h:IP w0 wr lab lb V a n c ac nc cc pa pc k mv M iv):w0.base<=wr.heap.size:=aJ h.gd.2.2.1 h.low.size
theorem IP.b2(h:IP w0 wr lab lb V a n c ac nc cc pa pc k mv M iv):w0.B2<=wr.heap.size:=aJ h.gd.2.1 h.low.size
theorem IP.sms(h:IP w0 wr lab lb V a n c ac nc cc pa pc k mv M iv){i:Nat->Prop}(g:XW wr w8 lab lab' w0.base i)(f:∀b,lab b=(0,0,0)->i b):YA w0.L2 w0.B2 w0.w w8/\∀b,w0.L2<=b->b<w0.B2->lab' b=(0,0,0):=by
 have l:=h.gd.1;have j:=h.b2;refine⟨λb d e=>(g.same b oM oM<|f b (h.lp b d e)).1.trans (h.sm b d e),λb d e=>(g.same b oM oM<|f b (h.lp b d e)).2.trans (h.lp b d e)⟩
theorem IP.calm(h:IP w0 wr lab lb V a n c ac nc cc pa pc k mv M iv)(b:Below wr.heap.size wr w8):IP w0 w8 lab lb V a n c ac nc cc pa pc k mv M iv :=
 ⟨h.low.trans<|b.mono h.bs,h.bx.keep<|b.block _ h.bx.lt,h.lw,h.m.sp (XW.below b) (λ_ _=>trivial) λ_ _ _ _=>trivial,λq hq=>h.fr q<|aJ b.size hq,h.l0,(h.sms (XW.below b) λ_ _=>trivial).1,h.lp,h.gd⟩
theorem IP.spT(h:IP w0 wr lab lb V a n c ac nc cc pa pc k mv M iv)(d:Below wr.heap.size wr w8)(b:XW wr w8 lab lab' w0.base λ_=>True):IP w0 w8 lab' lb V a n c ac nc cc pa pc k mv M iv :=
 ⟨h.low.trans<|d.mono h.bs,h.bx.keep<|d.block _ h.bx.lt,h.lw,h.m.sp b (λ_ _=>trivial) λ_ _ _ _=>trivial,b.fresh h.fr,(b.same _ h.lw h.bx.lt trivial).2.trans h.l0,(h.sms b λ_ _=>trivial).1,(h.sms b λ_ _=>trivial).2,h.gd⟩
theorem IP.push(h:IP w0 wr lab lb V a n c ac nc cc pa pc k mv M iv)(x:ag){q:Value}(hq:Xv wr lab (3,M.length,0) w0.base 48 5 q x.is.length (ZP x.is))(d:wr.grownBy w8 mv.ownBlock)(z:w8.ownsRow w0.base 43 5 v8 (M.length+1) (H9 iv M++IT q x.te))(v:v8.ownBlock=mv.ownBlock\/v8.ownBlock=some wr.heap.size) :
 (∃lab',IP w0 (w8.setCell ⟨lb,5,none⟩ v8) lab' lb V a n c ac nc cc pa pc k v8 (M++[x]) λi=>if i=M.length then q else iv i)/\Bx w8 lb #[.int .i64 V,.slice a n c,.slice ac nc cc,.slice pa n pc,.int .i64 k,mv] 74:=by
 let⟨lab',u,f⟩:=h.m.push vZ x hq d z v h.fr;have g:∀b,lab b=(0,0,0)->lab b≠(1,0,0):=λb e q=>by rw[e]at q;simp at q
 have y:Below w0.base wr w8:=⟨d.os,d.tape,d.output,d.size,λq hq=>d.block q (aX hq h.bs) λe=>by have:=(h.m.blks.own.lt q e.symm).1;omega⟩;have r:=(f.same _ h.lw h.bx.lt<|g _ h.l0).2.trans h.l0;have m:=h.bx.sp f h.lw<|g _ h.l0;have s:∀b L,lab' b=L->L≠(0,0,0)->b≠lb:=λb L e t q=>t (by rw[<-e,q];exact r);have o:=XW.put (w:=w8) (lab:=lab') (base:=w0.base) lb 5 v8;have p:=h.sms f g;exact⟨⟨lab',(h.low.trans y).setCell (p:=Hk lb 5) h.lw _,m.set 5 v8,h.lw,u.sp o (λb e=>s b _ e sP) λb i _ e=>s b _ e sP,o.fresh<|f.fresh h.fr,r,λb j l=>(Below.heap_setCell _ _ _ _ λe=>h.gd.2.2.2 (by have e2:b=lb:=e;rw[<-e2];exact⟨j,l⟩)).trans (p.1 b j l),p.2,h.gd⟩,m⟩
theorem IP.row{g t m:Nat}(h:IP w0 wr lab lb V a n c ac nc cc pa pc k (.slice (some ⟨g,0,none⟩) t m) M iv)(I:t=M.length){i:Nat}(p:i<M.length)(d:List Yg)(f:wr.grownBy w8 (iv i).ownBlock)(L:w8.ownsRow w0.base 48 5 v8 (M[i].is.length+d.length) (ZP M[i].is++ZP d))(G:v8.ownBlock=(iv i).ownBlock\/v8.ownBlock=some wr.heap.size) :
 (∃lab',IP w0 (w8.setCell ⟨g,i*5,none⟩ v8) lab' lb V a n c ac nc cc pa pc k (.slice (some ⟨g,0,none⟩) t m) (M.set i ⟨M[i].is++d,M[i].te⟩) λj=>if j=i then v8 else iv j)/\Bx w8 lb #[.int .i64 V,.slice a n c,.slice ac nc cc,.slice pa n pc,.int .i64 k,.slice (some ⟨g,0,none⟩) t m] 74/\w8.cell? ⟨g,i*5,none⟩=some (iv i)/\(∀q,w8.frozen? ⟨g,q,none⟩=false)/\lb≠g:=by
 subst I;let⟨lab',O,l⟩:=(h.m.ins i p).grow f L G h.fr;have u:∀b,lab b=(0,0,0)->lab b≠(3,i,0):=λb e q=>by rw[e]at q;simp at q
 have H:Below w0.base wr w8:=⟨f.os,f.tape,f.output,f.size,λq hq=>f.block q (aX hq h.bs) λe=>by have:=((h.m.ins i p).own.lt q e.symm).1;omega⟩;have s:=(l.same _ h.lw h.bx.lt<|u _ h.l0).2.trans h.l0;have B:=h.bx.sp l h.lw<|u _ h.l0;let⟨r,N⟩:=h.m.other vZ l;have o:=r.blk;have D:lb≠g:=λe=>by rw[e]at s;rw[o.2]at s;simp at s
 have e1:(M[i].is++d).length=M[i].is.length+d.length:=aQ;have P:Xv w8 lab' (3,i,0) w0.base 48 5 v8 (M[i].is++d).length (ZP<|M[i].is++d):=by rw[e1,ll];exact O
 have v:=XW.put (w:=w8) (lab:=lab') (base:=w0.base) g (i*5) v8;have x:=h.sms l u;have E:∀j b,lab' b=(3,j,0)->b≠g:=λj b e q=>by rw[q,o.2]at e;simp at e
 have F:IB (w8.setCell (Hk g<|i*5) v8) lab' w0.base (Hl g M.length m) 1 3 (M.set i ⟨M[i].is++d,M[i].te⟩) (λj=>if j=i then v8 else iv j):=by
  refine⟨?_,λj C=>?_⟩
  .have:=r.set (i*5) v8;have y:=uV (q:=0) (u:=v8) (v':=v8) (x':=⟨M[i].is++d,M[i].te⟩) p oM (iv:=iv) rfl;rw[fW]at y;rw[y]at this;rw[bL];exact this
  rw[bL]at C;by_cases e:j=i
  .subst e;simp only[gG,cQ];exact P.sp v λb e=>E _ b e
  simp only[aM e,bI λq=>e q.symm];exact(N j C e).sp v λb e=>E _ b e
 refine⟨⟨lab',(h.low.trans H).setCell (p:=Hk g<|i*5) o.1.1 _,B.other D,h.lw,F,v.fresh<|l.fresh h.fr,s,λb z A=>(Below.heap_setCell _ _ _ _ (λe=>by have:=x.2 b z A;have e2:b=g:=e;rw[e2,o.2]at this;simp at this)).trans (x.1 b z A),x.2,h.gd⟩,B,?_,λq=>r.thaw q,D⟩;have:=jr (q:=0) (u:=iv i) r p oM rfl;rwa[fW]at this
end
def Lv(m:La)(wr:World)(g:Nat)(V:Int)(a:Option Addr)(n c:Nat)(b:Option Addr)(i d:Nat)(j:Option Addr)(l:Nat)(k:Int)(M:List ag):Prop:=∃f h e,IP m wr f g V a n c b i d j l k h M e
structure Lo(w0:La)(V:Nat)(a:Option Addr)(n:Nat)(xs:List Xe)(L B:Nat)(ac:Option Addr)(nc:Nat)(cs:List Int)(Lc Bc:Nat)(pa:Option Addr):Prop where
 blks:Xp w0.w L B a xs
 len:n=xs.length
 hB:B<=w0.base
 ok:Jy V xs
 ints:Xf w0.w Lc Bc ac cs
 lc:nc=cs.length
 lv:nc=V
 hBc:Bc<=w0.base
 preds:XR w0.w w0.L2 w0.B2 pa ((List.range n).map λi:Nat=>AQ xs 0 (i:Int))
 ops:Yy w0.w
 opb:0 < w0.base
 cr:∀z∈cs,-9223372036854775808<=z/\z<=9223372036854775807
theorem Lo.copies{a:La}{b:Option Addr}{o:Option Addr}(G:Lo a n P m x k B b g l i j o){h r u:Nat}{f4 f5:Value}{p t:Nat}(f:Below a.base a.w w)(I:a.base<=w.heap.size)(E:YA a.L2 a.B2 a.w w)(z:a.B2<=w.heap.size)(C:Bx w h #[Hp n,.slice P m c,.slice b g r,.slice o m u,f4,f5] 74)(F:t<m)(D:(p:Int)∈AQ x 0 (t:Int)) :
 Calls prog 62 #[Hn h,Hp p,Hp t] w λe y=>∃q v,e=.returned (.slice q (ID l x p (t:Int)).length v)/\Below w.heap.size w y/\y.ownsRow w.heap.size 48 5 (.slice q (ID l x p (t:Int)).length v) (ID l x p (t:Int)).length (ZP<|ID l x p (t:Int))/\∃d,q=some (Hk d 0):=by
 refine(Fk h n P m c x k B b g r l i j o u a.L2 a.B2 f4 f5 p t w (Xa C) (Xa<|G.blks.keep (f.mono G.hB)) (Xa G.len) (oN G.hB) (Xa G.ok) (Xa<|G.ints.keep (f.mono G.hBc)) (Xa G.lc) (Xa G.lv) (oN G.hBc) (Xa<|G.preds.keepS E) z (Xa<|G.ops.keep f G.opb) F (Xa D) (Xa G.cr)).mono ?_;rintro e J⟨v5,rfl,H,A,s⟩;rcases Vc s with⟨e,_,_⟩|⟨d,c,e,_,_⟩;·exact absurd e H
 subst e;exact⟨_,_,rfl,A,s,d,rfl⟩
theorem uC(s:La)(V:Nat)(S:Option Addr)(L c:Nat)(l:List Xe)(a4 ay:Nat)(T:Option Addr)(nc cc:Nat)(a:List Int)(Lc Bc:Nat)(pa:Option Addr)(pc:Nat)(i:Nat)(ax:Int)(M:List ag)(p t:Nat)(y:World)(hG:Hs (Lo s V S L l a4 ay T nc a Lc Bc pa))(hH:Hs (Lv s y i (V:Int) S L c T nc cc pa pc ax M))(hM:M.length<=5000)(ba:t<L)(hp:Hs ((p:Int)∈AQ l 0 (t:Int))) :
 Calls prog 63 #[Hn i,Hp p,Hp t] y λv o=>v=.returned (Hp (au a l p (t:Int) M.length).1)/\Lv s o i (V:Int) S L c T nc cc pa pc ax (M++(au a l p (t:Int) M.length).2)/\∀b a,Bx y b a 41->Bx o b a 41:=by
 obtain⟨j0,a6,bc,bd,bf⟩:=fX Nj;obtain⟨bi,mv,iv,n⟩:=hH.o;have B:=Xa<|hG.copies n.low n.bs n.sm n.b2 n.bx ba hp;obtain⟨I,J,a8⟩:=n.m.blks.form;subst a8;have C:=Xa n;have R:Hs (au a l p (t:Int) M.length=if ID a l p (t:Int)=[]then ((t:Int),[])else ((M.length:Int),[⟨ID a l p (t:Int),⟨1,0,(t:Int),0⟩⟩])):=Xa rfl;obtain⟨u,af⟩:∃u,u=ID a l p (t:Int):=⟨_,rfl⟩;rw[<-af]at B R;obtain⟨e,Z⟩:∃e,e=u.length:=⟨_,rfl⟩;rw[<-Z]at B;have N:=Xa Z;clear af Z n hH
 go_in
 go_wp2_with fail
 refine B.mono ?_;rintro v k⟨va,j,rfl,F,ap,h,rfl⟩;obtain⟨bt,aq,ar⟩:=Xv.fresh (L:=(3,M.length,0)) (lab:=bi) (base:=s.base) F ap C.bs C.fr;have q:=Xa<|C.spT F ar;have P:Hs (∀b a,Bx y b a 41->Bx k b a 41):=Xa λb a w=>w.keep<|F.block b w.lt;have ab:=Xa aq;clear F ap aq ar B C;by_cases X:e=0
 .have O:Hs (au a l p (t:Int) M.length=((t:Int),[])):=Xa (by rw[R.o,aU<|List.length_eq_zero_iff.1 (by rw[<-N.o];exact X)]);subst X;go_wp2;go_ret;rw[O.o];exact⟨rfl,⟨_,_,_,by rw[fF];exact q⟩,P⟩
 have O:Hs (au a l p (t:Int) M.length=((M.length:Int),[⟨u,⟨1,0,(t:Int),0⟩⟩])):=Xa (by rw[R.o,aM λv=>X<|by rw[N.o,v];rfl]);have bl:¬(e:Int)=0:=oM;obtain⟨f,G⟩:∃f,f=M.length:=⟨_,rfl⟩;have m:=Xa G;rw[<-G]at hM;have H:=Bx.c q.bx 5;rw[<-G]at H;clear G;go_wp2;have Y:=(Xb (Below.refl k.heap.size k) (.cells #[Hl h e j,Hp 1,Hp 0,Hp t,Hp 0] 43));have r:=Bx.new k #[Hl h e j,Hp 1,Hp 0,Hp t,Hp 0] 43;have D:=Xa<|q.calm Y;have a1:Hs (∀b a,Bx y b a 41->Bx (k.alloc<|.cells #[Hl h e j,Hp 1,Hp 0,Hp t,Hp 0] 43) b a 41):=Xa λb a w=>(P b a w).box _;clear P;have a2:=Xa (ab.sp (XW.below Y) λ_ _=>trivial);have bo:=q.bx.lt;have a7:=q.fr _<|aA _;have a3:Hs ((k.alloc<|.cells #[Hl h e j,Hp 1,Hp 0,Hp t,Hp 0] 43).heap.size=k.heap.size+1):=Xa sP;have bq:=q.bs;clear Y H q ab;generalize k.alloc _=d at*;have a5:k.heap.size<d.heap.size:=oN a3.o;generalize k.heap.size=g at*;have bp:i<d.heap.size:=oM;have br:s.base<=d.heap.size:=oM;have bn:i≠g:=oM;have bm:g≠i:=oM;have t0:=Bx.c r 0;have t1:=Bx.c r 1;have t2:=Bx.c r 2;have t3:=Bx.c r 3;have t4:=Bx.c r 4;have H:d.cell? (Hk i 5)=some (.slice I f J):=by rw[m.o];exact Bx.cell D.bx rfl
 have az:=Xa r;clear r;have Q:Hs ((d.drew.alloc<|.cells #[Hl h e j,Hp 1,Hp 0,Hp t,Hp 0] 43).ownsRow s.base 43 5 (.slice I f J) f (H9 iv M)):=Xa (World.ownsRow.alloc (w:=d.drew) (by rw[m.o];exact D.m.blks.own) _);refine Y7 (λo=>o.cell? (Hk g 0)=some (Hl h e j)/\o.cell? (Hk g 1)=some (Hp 1)/\o.cell? (Hk g 2)=some (Hp 0)/\o.cell? (Hk g 3)=some (Hp t)/\o.cell? (Hk g 4)=some (Hp 0)) λhHeld=>?_;refine Xn 0 ?_;refine Xn 1 ?_;refine Xn 2 ?_;refine Xn 3 ?_;refine Xn 4 ?_;refine Xn 6 ?_;refine eS (rs:=[5,7]) kR sP ?_;refine(bQ rfl (λK hK=>?_) (bQ rfl (λK hK=>?_) dY))
 focus
  go_simp;refine hK _ _ kP λhHeld=>?_;clear hK
  try simp only[xX]
  refine eS (rs:=[7]) kR sP ?_
 rotate_left
 focus
  go_simp;refine hK _ _ kP λhHeld=>?_;clear hK
  try simp only[xX]
  refine eS (rs:=[5]) kR sP ?_
 all_goals (
  refine bQ rfl (λK hK=>?_) dY;go_simp;refine hK _ _ kP λhHeld=>?_;clear hK
  try simp only[xX]
  refine Xs 8 λK hK=>?_;refine dm rfl _ _ 33 rfl s.base 43 j0 (.agg #[Hq,Hp 0,Hp 0,Hp 0,Hp 0]) 5 56 underlying33 a6 bc bd bf rfl vZ (.slice I f J) f (H9 iv M) rfl Q (Hk d.heap.size 0) 1 1 [Hl h e j,Hp 1,Hp 0,Hp t,Hp 0] rfl rfl (World.news_of_block<|World.alloc_heap_new _ _) ?s3 ?s4 ?s5 ?s6 ?_
  case s3=>intro bw hu;simp at hu;rcases hu with rfl|rfl|rfl|rfl|rfl<;>rfl
  case s4=>unfold maxLen;omega
  case s5=>omega
  case s6=>simp;omega
  intro v8 w8 aa z a9 al;have hA:=D.calm (w8:=d.drew.alloc<|.cells #[Hl h e j,Hp 1,Hp 0,Hp t,Hp 0] 43) ((Below.refl d.heap.size d).drew.alloc (aA _) _);have hR:=a2.sp (w':=d.drew.alloc<|.cells #[Hl h e j,Hp 1,Hp 0,Hp t,Hp 0] 43) (XW.below<|(Below.refl d.heap.size d).drew.alloc (aA _) _) λ_ _=>trivial;obtain⟨⟨bv,aj⟩,A⟩:=hA.push ⟨u,⟨1,0,(t:Int),0⟩⟩ (by show Xv _ _ _ _ _ _ _ u.length _;rw[<-N.o];exact hR) (by rw[<-m.o];exact z) (by rw[<-m.o];exact aa) (by rw[<-m.o];exact al);obtain⟨W,U,rfl,_,_⟩:=Xm aa oM;have ao:some g≠(Value.slice I f J).ownBlock:=λv=>by
   have h9:=D.m.blks.lab g (by rw[<-m.o];exact v.symm);rw[a7]at h9;simp at h9
  have x:=az.keep ((z.block g (by simp;omega) ao).trans (Below.heap_alloc d.drew _ _ a5));rw[<-m.o]at A;have k5:=Bx.c A 5;have kz:=Bx.thaw A;have ad:=Xa aj;have a0:Hs (∀b a,Bx y b a 41->Bx (w8.setCell (Hk i 5) (Hl W (f+1) U)) b a 41):=Xa (λb a w=>by
   have h1:=a1 b a w;have E:Bx (d.drew.alloc<|.cells #[Hl h e j,Hp 1,Hp 0,Hp t,Hp 0] 43) b a 41:=Bx.box (w:=d.drew) h1 _;exact(E.grown z<|pf E Q vZ).other (vH (E.grown z<|pf E Q vZ) A vZ))
  refine hK _ _ ⟨Bx.cell x rfl,Bx.cell x rfl,Bx.cell x rfl,Bx.cell x rfl,Bx.cell x rfl⟩ λhHeld=>?_;clear hK aa z a9 al hA hR aj A x ao t0 t1 t2 t3 t4 H
  try simp only[xX]
  refine Xn 9 ?_;refine Xn 10 ?_;refine Xn 11 ?_;refine Xs 12 λK hK=>?_;go_simp;refine hK _ _ kP λhHeld=>?_;clear hK;refine Yq ?_;clear hHeld;have q5:(w8.setCell (Hk i 5) (Hl W (f+1) U)).cell? (Hk i 5)=some (Hl W (f+1) U):=Bx.cell ad.bx rfl;generalize w8.setCell _ _=w9 at*;clear k5 kz;go_wp2;go_ret
  rw[O.o];exact⟨by rw[m.o];simp,⟨_,_,_,ad⟩,a0⟩)
theorem IP.te{l:La}{wr:World}{y:Option Addr}{o:Nat}{M:List ag}(d:IP l wr Z n t p m c P k B y g T (.slice (some ⟨i,0,none⟩) j o) M h)(w:j=M.length){a q:Nat}(v:a<M.length)(hq:q<5)(u:Value){t':Yj}(A:(IT (h a) M[a].te).set q u=IT (h a) t') :
 IP l (wr.setCell ⟨i,a*5+q,none⟩ u) Z n t p m c P k B y g T (.slice (some ⟨i,0,none⟩) j o) (M.set a ⟨M[a].is,t'⟩) (λx=>if x=a then h a else h x):=by
 have z:=d.m.turn w vZ v hq u (h a) ⟨M[a].is,t'⟩ A (d.m.ins a v);subst w;have f:=d.m.blks.blk;have C:n≠i:=λe=>by have:=d.l0;rw[e,f.2]at this;simp at this
 exact⟨d.low.setCell (p:=Hk i<|a*5+q) f.1.1 _,d.bx.other C,d.lw,z,(XW.put (w:=wr) (lab:=Z) (base:=l.base) i (a*5+q) u).fresh d.fr,d.l0,λb r s=>(Below.heap_setCell _ _ _ _ (λe=>by have:=d.lp b r s;have e2:b=i:=e;rw[e2,f.2]at this;simp at this)).trans (d.sm b r s),d.lp,d.gd⟩
theorem Fq(i:La)(V:Nat)(a2:Option Addr)(n c:Nat)(a:List Xe)(a1 aq:Nat)(s:Option Addr)(v z:Nat)(d:List Int)(Lc Bc:Nat)(x:Option Addr)(F:Nat)(q:Nat)(E:Int)(M:List ag)(p:Nat)(w:World)(t:Hs (Lo i V a2 n a a1 aq s v d Lc Bc x))(hH:Hs (Lv i w q (V:Int) a2 n c s v z x F E M))(hM:M.length<=4000)(al:p<a.length)(D:p<M.length)(hx:Hs (M[p]=⟨a[p].is.map (ZR d),II d a[p].te⟩)) :
 Calls prog 26 #[Hn q,Hp p] w λj Q=>j=.returned (.tuple #[])/\Lv i Q q (V:Int) a2 n c s v z x F E (M.set p (IK d a p a[p] M.length).1++(IK d a p a[p] M.length).2):=by
 obtain⟨i0,ci,cw,cx,cz⟩:=fX Nm;have HN:=Xa t.len;obtain⟨d3,mv,iv,m⟩:=hH.o;obtain⟨L,ob,rfl,⟨_,dd⟩,cg⟩:=t.blks p al;obtain⟨qa,qc,ia,ic,_,_,⟨e2,e3,e4,e5⟩,_,_⟩:=cg;have ch:L<i.base:=oN t.hB;have J:Hs (∀G:Int,G∈a[p].te.tg->(0<=G/\G<n)/\(p:Int)∈AQ a 0 G):=Xa (λG ht=>⟨by have:=t.ok.okf.tgt _ (aH al) G ht;rw[HN.o];exact this,by have:=uL G a 0 p al ht;simpa using this⟩);have Y:=λc6=>m.low.cell (p:=Hk L c6) ch;have f2:=(Y _).trans e2;have f3:=(Y _).trans e3;have f4:=(Y _).trans e4;have f5:=(Y _).trans e5;have df:L<w.heap.size:=oN m.bs;have dn:(p:Int)<(n:Int):=oN HN.o;obtain⟨N,mc,co⟩:=m.m.blks.got oM;subst co;obtain⟨va,vc,af⟩:=(m.m.ins p D).form;have a6:M[p].is.length=a[p].is.length:=by rw[hx.o,bK]
 rw[a6]at af;have ay:=Xa a6;have I:=Xa af;have bm:=Xa (t.ok.lens _<|aH al).1;obtain⟨ml,a7⟩:∃ml,ml=M.length:=⟨_,rfl⟩;have db:=Xa a7;have ds:(p:Int)<(ml:Int):=oM;have l5:w.cell? (Hk q 5)=some (Hl N ml mc):=by rw[a7];exact Bx.cell m.bx rfl
 have m0:w.cell? (Hk N<|p*5)=some (.slice va a[p].is.length vc):=by have:=jr (q:=0) (u:=iv p) m.m.blks D oM rfl;rw[fW,af]at this;exact this
 have cm:=m.m.blks.blk.1.2;have di:=m.bx.lt;clear a6 af a7;have l1:=Bx.c m.bx 1;have K:=Xa m;have l:Hs (IK d a p a[p] M.length=if a[p].te.kind=1 then (⟨a[p].is.map (ZR d)++ID d a p a[p].te.to,II d a[p].te⟩,[])
  else if a[p].te.kind=2 then (⟨a[p].is.map (ZR d),⟨a[p].te.kind,Ht d a[p].te.a,(au d a p a[p].te.to M.length).1,(au d a p a[p].te.els (M.length+(au d a p a[p].te.to M.length).2.length)).1⟩⟩,(au d a p a[p].te.to M.length).2++(au d a p a[p].te.els (M.length+(au d a p a[p].te.to M.length).2.length)).2)
  else (⟨a[p].is.map (ZR d),II d a[p].te⟩,[])):=Xa rfl
 obtain⟨ad,hR⟩:∃ad,ad=IK d a p a[p] M.length:=⟨_,rfl⟩;rw[<-hR]at l |-;clear m Y e2 e3 e4 e5 hR;generalize a[p]=ca at*;obtain⟨ps,y,kd,k,O,P⟩:=ca;dsimp only at f2 f3 f4 f5 l J hx ay I bm m0
 go_in
 by_cases h1:kd=1
 .subst h1;rw[aU rfl]at l;have bz:=J O (by simp[Yj.tg]);obtain⟨e,rfl⟩:∃e:Nat,O=(e:Int):=⟨O.toNat,oM⟩;have ax:=Xa λ(W:World)(hW:Below i.base i.w W)(ce:i.base<=W.heap.size)(cr:YA i.L2 i.B2 i.w W)(cd:i.B2<=W.heap.size)(hb:Bx W q #[Hp V,Hm L ob n c,.slice s v z,.slice x n F,Hp E,Hl N M.length mc] 74)=>t.copies (p:=p) (t:=e) hW ce cr cd hb oM bz.2;have a0:Hs ((ID d a p (e:Int)).length<=128):=Xa<|pE _;obtain⟨S,bn⟩:∃S,S=ID d a p (e:Int):=⟨_,rfl⟩;rw[<-bn]at ax a0 l;obtain⟨cl,a4⟩:∃cl,cl=S.length:=⟨_,rfl⟩;rw[<-a4]at ax a0;have bb:=Xa a4;have dc:=a0.o;have d0:=bm.o;clear bn a4 bz J;have C:=Xb (Below.refl w.heap.size w) (.cells #[Hp 1,Hp k,Hp e,Hp P] 41);have A:=Bx.new w #[Hp 1,Hp k,Hp e,Hp P] 41;have o:=Xa<|K.calm C;have dk:N≠w.heap.size:=oM;have dl:w.heap.size≠N:=oM;have u2:(w.alloc<|.cells #[Hp 1,Hp k,Hp e,Hp P] 41).cell? (Hk w.heap.size 2)=some (Hp e):=Bx.cell A rfl;have b1:=oB C m0 cm;have H:=Xa A;have b6:=Xa<|K.fr _ (aA _);have dw:=C.size;clear A C;go_wp2;clear f2 f3 f4 f5 l1 l5 m0 K;generalize w.alloc _=R at*;have bt:N<R.heap.size:=oM;generalize w.heap.size=tb at*;have bf:=Xa<|ax.o R.drew o.low.drew o.bs o.sm o.b2 (o.bx.keep rfl);refine Y7 (λQ=>Q.cell? (Hk tb 2)=some (Hp e)) λhHeld=>?_;refine Xn 0 ?_;refine Xn 1 ?_;refine Xn 2 ?_;refine Xn 3 ?_;refine Xn 5 ?_;refine Xn 6 ?_;refine Xn 7 ?_;refine Xn 8 ?_;refine eS (rs:=[4,9]) kR sP ?_;refine(bQ rfl (λX hK=>?_) (bQ rfl (λX hK=>?_) dY))
  focus
   go_simp;refine hK _ _ kP λhHeld=>?_;clear hK
   try simp only[xX]
   refine Xs 9 λX hK=>?_;go_simp
   go_at_call 62
   with_reducible refine bf.o.mono ?_
   rintro j w5⟨c9,c5,rfl,Z,aa,g5,rfl⟩;have r:=Xg (Below.refl R.heap.size R).drew Z;have U:=Xa<|o.calm r;have T:=Xa<|H.keep (r.block _ H.lt);have x5:=oB r b1 bt;have bi:=Xa aa;have s5:=Bx.c T 2;clear Z aa r;dsimp only;refine hK _ _ s5 λhHeld=>?_;clear hK
  rotate_left
  focus
   go_simp
   go_at_call 62
   with_reducible refine bf.o.mono ?_
   rintro j w5⟨c9,c5,rfl,Z,aa,g5,rfl⟩;have r:=Xg (Below.refl R.heap.size R).drew Z;have U:=Xa<|o.calm r;have T:=Xa<|H.keep (r.block _ H.lt);have x5:=oB r b1 bt;have bi:=Xa aa;have s5:=Bx.c T 2;clear Z aa r;dsimp only;refine hK _ _ s5 λhHeld=>?_;clear hK
   try simp only[xX]
   refine Xs 4 λX hK=>?_;go_simp;refine hK _ _ kP λhHeld=>?_;clear hK
  all_goals (
   refine Xs 10 λX hK=>?_;refine dm rfl _ _ 38 rfl i.base 48 i0 (.agg #[Hp 0,Hp 0,Hp 0,Hp 0,Hp 0]) 5 40 underlying38 ci cw cx cz rfl vZ (.slice va y.length vc) y.length (ZP M[p].is) rfl ?s1 (Hk g5 0) cl c5 (ZP S) rfl ?s0 ?s2 ?s3 ?s4 ?s5 ?s6 ?_
   case s1=>have:=(U.m.ins p D).own;rw[ay.o,I.o]at this;exact this
   case s0=>rw[i8,bb.o]
   case s2=>
    intro b0 ed hu;have:=Jj bi hu;cases b0 with
    |zero=>simpa [Addr.add]using this
    |succ b0=>simpa [Addr.add]using this
   case s3=>exact vA _
   case s4=>unfold maxLen;omega
   case s5=>omega
   case s6=>exact U.bs
   intro v8 w8 a9 a5 cq bp;obtain⟨⟨d5,u⟩,ck,cf,d1,dj⟩:=U.row rfl D S (by rw[I.o];exact a5) (by rw[ay.o,<-bb.o];exact a9) (by rw[I.o];exact bp);rw[I.o]at cf;obtain⟨a8,c8,rfl⟩:∃a8 c8,v8=.slice a8 (y.length+cl) c8:=by
    rcases Vc a9 with⟨j,h,_⟩|⟨g,c,j,_⟩;·exact⟨none,0,by rw[j,h]⟩
    exact⟨_,_,j⟩
   have az:=Xa u;have bq:Bx w8 tb _ _:=T.keep (a5.block tb T.lt (λj=>by
    have h9:=(U.m.ins p D).lab tb (by rw[I.o];exact j.symm);rw[b6.o]at h9;simp at h9))
   refine hK _ _ (Bx.cell bq rfl) λhHeld=>?_;clear hK a9 a5 cq bp u ck bq
   try simp only[xX]
   refine Xn 11 ?_;refine Xn 12 ?_;refine Xs 13 λX hK=>?_;go_simp;refine hK _ _ kP λhHeld=>?_;clear hK;refine Yq ?_;clear hHeld;go_wp2;refine bodyPost_end (v:=.tuple #[]) (by simp[results,results26,go_sem]) rfl ⟨rfl,?_⟩;rw[l.o,fF];exact⟨_,_,_,by have:=az.o;rw[hx.o]at this;exact this⟩)
 by_cases h2:kd=2
 .subst h2
  rw[aM vZ,aU rfl]at l;have bv:=J O (by simp[Yj.tg]);have bw:=J P (by simp[Yj.tg]);obtain⟨e,rfl⟩:∃e:Nat,O=(e:Int):=⟨O.toNat,oM⟩;obtain⟨f,rfl⟩:∃f:Nat,P=(f:Int):=⟨P.toNat,oM⟩;have ct:e<n:=oM;have cv:f<n:=oM;have b7:=Xa bv.2;have b8:=Xa bw.2;have C:=Xb (Below.refl w.heap.size w) (.cells #[Hp 2,Hp k,Hp e,Hp f] 41);have A:=Bx.new w #[Hp 2,Hp k,Hp e,Hp f] 41;have o:=Xa<|K.calm C;clear bv bw J;have u3:(w.alloc<|.cells #[Hp 2,Hp k,Hp e,Hp f] 41).cell? (Hk w.heap.size 3)=some (Hp f):=Bx.cell A rfl;have H:=Xa A;obtain⟨s1,ao⟩:∃s1,s1=au d a p (e:Int) M.length:=⟨_,rfl⟩;rw[<-ao]at l;obtain⟨s2,ap⟩:∃s2,s2=au d a p (f:Int) (M.length+s1.2.length):=⟨_,rfl⟩;rw[<-ap]at l;have ar:=Xa<|uC i V _ n c a a1 aq s v z d Lc Bc x F q E M p e _ t (Xa ⟨_,_,_,o⟩) oM ct b7;rw[<-ao]at ar;have b5:Hs (s1.2.length<=1):=Xa (by rw[ao];exact lj _ _ _ _ _);have bc:Hs (∀W,Lv i W q (V:Int) (some ⟨L,ob,none⟩) n c s v z x F E (M++s1.2)->Calls prog 63 #[Hn q,Hp p,Hp f] W λj Q=>j=.returned (Hp s2.1)/\Lv i Q q (V:Int) (some ⟨L,ob,none⟩) n c s v z x F E ((M++s1.2)++s2.2)/\∀b d,Bx W b d 41->Bx Q b d 41):=Xa (λW hW=>by
   have:=uC i V _ n c a a1 aq s v z d Lc Bc x F q E (M++s1.2) p f W t (Xa hW) (by rw[aQ];have:=b5.o;omega) cv b8;rw[aQ,<-ap]at this;exact this)
  have da:Hs (s2.2.length<=1):=Xa (by rw[ap];exact lj _ _ _ _ _);clear C A ao ap;go_wp2_with fail
  refine ar.mono ?_;rintro j w5⟨rfl,bo,br⟩;have b4:=Xa<|br _ _ H;have bd:=Xa<|bc.o w5 bo;have v3:=Bx.c b4 3;clear bo br ar bc o K u3 f2 f3 f4 f5 l1 l5 m0;go_wp2_with fail
  refine bd.mono ?_;rintro j w6⟨rfl,cb,cj⟩;clear cj bd v3;obtain⟨d4,ec,d2,B⟩:=cb;have aj:p<((M++s1.2)++s2.2).length:=by simp only[aQ];omega
  obtain⟨b3,ea,cp⟩:=B.m.blks.got oM;subst cp;have ab:((M++s1.2)++s2.2)[p]=⟨y.map<|ZR d,⟨2,Ht d k,(e:Int),(f:Int)⟩⟩:=by
   rw[fA (by rw[aQ];omega),fA D,hx.o];rfl
  have bl:Hs (((M++s1.2)++s2.2).set p ⟨y.map<|ZR d,⟨2,Ht d k,s1.1,s2.1⟩⟩=M.set p ad.1++ad.2):=Xa (by rw[l.o,cK,List.set_append_left _ _ D]);have a3:=B.te rfl aj (q:=3) oM (Hp s1.1) (t':=⟨2,Ht d k,s1.1,(f:Int)⟩) (by rw[ab];rfl);rw[ab]at a3;have bx:p<(((M++s1.2)++s2.2).set p ⟨y.map<|ZR d,⟨2,Ht d k,s1.1,(f:Int)⟩⟩).length:=by rw[bL];exact aj
  have ba:(((M++s1.2)++s2.2).set p ⟨y.map<|ZR d,⟨2,Ht d k,s1.1,(f:Int)⟩⟩)[p]=⟨y.map<|ZR d,⟨2,Ht d k,s1.1,(f:Int)⟩⟩:=cQ _;have u:=a3.te (by rw[bL]) bx (q:=4) oM (Hp s2.1) (t':=⟨2,Ht d k,s1.1,s2.1⟩) (by rw[ba];rfl);rw[ba,gE]at u;dsimp only at u;rw[bl.o]at u;have az:=Xa u;have l6:=Bx.c B.bx 5;have n3:Cl w6 b3 (p*5+3) (Hp e):=jr (q:=3) B.m.blks aj oM (by rw[ab];rfl);have n4:Cl w6 b3 (p*5+4) (Hp f):=jr (q:=4) B.m.blks aj oM (by rw[ab];rfl);have nz:=λc7=>B.m.blks.thaw c7;have du:(p:Int)<((((M++s1.2)++s2.2).length:Nat):Int):=oM;clear B a3 u ab ba bx bl;generalize ((M++s1.2)++s2.2).length=eb at*;go_wp2_with fail
  refine bodyPost_end (v:=.tuple #[]) (by simp[results,results26,go_sem]) rfl ⟨rfl,?_⟩;exact⟨_,_,_,az⟩
 rw[aM h1,aM h2]at l;go_wp2;refine bodyPost_end (v:=.tuple #[]) (by simp[results,results26,go_sem]) rfl ⟨rfl,?_⟩;rw[l.o,fF,<-hx.o,fK];exact⟨_,_,_,K.calm<|Xb (Below.refl _ _) _⟩
end Go.Proofs.YtffcajcgkblkoaaGreatDoor
