import Derived.Test.YtcfdhbigppockaaGreatDoorPL3
import Derived.Laws.IdiomStrings
import Derived.Laws.Strings2
namespace Go.Proofs.YtcfdhbigppockaaGreatDoor
set_option maxHeartbeats 8000000
set_option maxRecDepth 100000
open Go.RowKit Go.Proofs.Tryz Go.Shelf
variable{r:Bool}{n m k B g i j c:Nat}{w v:Ub}{a A:Uj}{p:Uy}{M N:Vp}{h:Vu}{l:Wc}{x:Wi}{f F:Wk}{q:Xe}
theorem uv(v:Int)(f:Hs (VO w (λ_=>True) h q l))(bd:Hs (q.2.length<=4000))(hE:Hs (l.length<=8000000))(H I:Uj){u4 u5:Uj}(Y:h 2=a)(Z:h 3=A)(h4:h 4=u4)(h5:h 5=u5):
 Calls prog 129 #[.agg #[H,I,a,A,u4,u5],Hp v] w λC w'=>C=.returned (Hp (NA q l v:Nat))/\Below w.1.size w w':=by
 let⟨x,c2,e2,i2⟩:=f.e2;let⟨y,c3,e3,i3⟩:=f.e3;let⟨z,c4,e4,i4⟩:=f.e4;let⟨j,c5,e5,i5⟩:=f.e5;rw[e2]at Y;rw[e3]at Z;rw[e4]at h4;rw[e5]at h5;subst Y Z h4 h5;have H2:=Xa i2;have H3:=Xa i3;have H4:=Xa i4;have H5:=Xa i5;have u:Hs ((Jv q).length=q.is.length):=Xa (by unfold Jv;simp);have aq:Hs ((Z2 q).length=q.is.length):=Xa (by unfold Z2;simp);let⟨b,o⟩:∃m,m=(Jv q).length:=⟨_,rfl⟩;let⟨n4,E⟩:∃m,m=(Z2 q).length:=⟨_,rfl⟩;let⟨s,F⟩:∃m,m=(Id q.te).length:=⟨_,rfl⟩;let⟨r,D⟩:∃m,m=l.length:=⟨_,rfl⟩;rw[<-o,<-E,<-F,<-D];have a6:b=n4:=by rw[o,E,u.o,aq.o]
 subst a6;have be:b<=4000:=by rw[o,u.o];exact bd
 have bh:s<=1:=by rw[F];unfold Id;split<;>simp
 have bf:r<=8000000:=by rw[D];exact hE
 have L:=Xa o;have a0:=Xa E;have a1:=Xa F;have az:=Xa D;clear o E F D e2 e3 e4 e5 i2 i3 i4 i5;have ad:Hs (NA q l v=Ya v (Cg (Id q.te) v||Cg l v) q.is):=Xa rfl;generalize NA q l v=c at*;have n:Below w.heap.size w (w.alloc<|.cells #[H,I,.slice x r c2,.slice y b c3,.slice z b c4,.slice j s c5] 138):=Xb (Below.refl _ _) _;have hc:∀R S,#[H,I,Value.slice x r c2,.slice y b c3,.slice z b c4,.slice j s c5][R]?=some S->(w.alloc<|.cells #[H,I,.slice x r c2,.slice y b c3,.slice z b c4,.slice j s c5] 138).cell? (Hk w.heap.size R)=some S:=λR S f=>by
  rw[eC];exact f
 go_in
 go_wp2_with fail
 have d:=Xa n;have i:=Xa hc;generalize w.alloc _=W at*;have k2:Cl W w.heap.size 2 (.slice x r c2):=i 2 _ rfl;have k3:Cl W w.heap.size 3 (.slice y b c3):=i 3 _ rfl;have k4:Cl W w.heap.size 4 (.slice z b c4):=i 4 _ rfl;have k5:Cl W w.heap.size 5 (.slice j s c5):=i 5 _ rfl;have bl:=n.size;have ab:=Xa<|H2.at_.keep n;have ac:=Xa<|H5.at_.keep n;have aj:=Xa<|qu c2 v ab az oM;have ao:=Xa<|YF j c5 v (Id q.te) 0 w.heap.size W ac a1 oM;clear n hc i
 go_loop [5] (λQ=>∃k:Nat,k<=b/\Q=Hp k/\Hs (c=Ya v (Cg (Id q.te) v||Cg l v) (q.is.drop k))) λQ=>b-(intOf Q).toNat
 case atStart=>exact⟨0,aN,rfl,Xa<|by rw[ad.o];rfl⟩
 obtain⟨k,hk,rfl,K⟩:=hrel;by_cases P:k<b
 .have bc:k<q.is.length:=by rw[<-u.o,<-L.o];exact P
  have ba:k<(Jv q).length:=by rw[<-L.o];exact P
  have bb:k<(Z2 q).length:=by rw[<-a0.o];exact P
  obtain⟨b3,o3,rfl,⟨_,a7⟩,ar,cr,N,O⟩:=H3 k ba;obtain⟨b4,o4,rfl,⟨_,a8⟩,M⟩:=H4 k bb;have X:(Jv q)[k]=Iw q.is[k]:=by simp[Jv]
  have V:(Z2 q)[k]=H7 q.is[k]:=by simp[Z2]
  rw[X]at N O;rw[V]at M;have l3:=oB d N a7;have l4:=oB d M a8;have U:Hs (Ya v (Cg (Id q.te) v||Cg l v) (q.is.drop k)=if Cg (Iw q.is[k]) v then 1 else if H7 q.is[k]=v then 2 else Ya v (Cg (Id q.te) v||Cg l v) (q.is.drop<|k+1)):=Xa (by rw[gZ bc];rfl);have ap:=Xa<|O.at_.keep d;let⟨nr,G⟩:∃m,m=(Iw q.is[k]).length:=⟨_,rfl⟩;rw[<-G]at l3;have bi:nr<=2:=by rw[G];exact oU _
  have al:=Xa<|YF ar cr v (Iw q.is[k]) 0 w.heap.size W ap (Xa G) oM;clear N M O X V G;generalize Iw q.is[k]=ri at*;generalize H7 q.is[k]=B at*;go_wp2_with fail
  refine al.mono ?_;rintro C w3⟨rfl,p⟩;rw[p];clear p;cases hh:Cg ri v with
  |true=>
   have e:Hs (c=1):=Xa (by rw[K.o,U.o,hh];rfl);clear hh;go_wp2;go_ret;exact⟨by rw[e.o];rfl,d⟩
  |false=>
   have T:Hs (c=if B=v then 2 else Ya v (Cg (Id q.te) v||Cg l v) (q.is.drop<|k+1)):=Xa (by rw[K.o,U.o,hh];rfl);clear hh;by_cases g:B=v
   .have e:Hs (c=2):=Xa (by rw[T.o,aU g]);have a9:(B==v)=true:=by simp[g]
    clear g;go_wp2;go_ret;exact⟨by rw[e.o];rfl,d⟩
   have af:Hs (c=Ya v (Cg (Id q.te) v||Cg l v) (q.is.drop<|k+1)):=Xa (by rw[T.o,aM g]);have a9:(B==v)=false:=by simp[g]
   clear g;go_wp2_with fail
   go_round
   case rel=>exact⟨k+1,oM,gM,af⟩
   simp[intOf];omega
 have e:Hs (c=if (Cg (Id q.te) v||Cg l v)then 1 else 0):=Xa (by rw[K.o,mP<|by rw[<-u.o,<-L.o];omega];rfl);go_wp2_with fail
 refine ao.mono ?_;rintro C w3⟨rfl,p⟩;rw[p];clear p;cases ht:Cg (Id q.te) v with
 |true=>
  have t:Hs (c=1):=Xa (by rw[e.o,ht];rfl);clear ht;go_wp2;go_ret;exact⟨by rw[t.o];rfl,d⟩
 |false=>
  have t:Hs (c=if Cg l v then 1 else 0):=Xa (by rw[e.o,ht];rfl);clear ht;go_wp2_with fail
  refine aj.mono ?_;rintro C w4⟨rfl,aa⟩;rw[aa];clear aa;cases ht:Cg l v with
  |true=>
   have J:Hs (c=1):=Xa (by rw[t.o,ht];rfl);clear ht;go_wp2;go_ret;exact⟨by rw[J.o];rfl,d⟩
  |false=>
   have J:Hs (c=0):=Xa (by rw[t.o,ht];rfl);clear ht;go_wp2;go_ret;exact⟨by rw[J.o];rfl,d⟩
inductive Wh (xs:List Xe) (v:Nat):Nat->Prop
 |here {b:Nat}:b<xs.length->C7 xs b v=1->Wh xs v b
 |step {b t:Nat}:b<xs.length->C7 xs b v=0->t∈X8 xs b->Yo xs t v=false->Wh xs v t->Wh xs v b
def Ol(a:Wi)(v b:Nat):Prop:=Yo a b v=false/\Wh a v b
def UV(a:Wi)(v b:Nat):Prop:=(v:Int)∈XP a b\/∃t∈X8 a b,Ol a v t
theorem qD(a:Wi)(b v:Nat):C7 a b v<=2:=by
 unfold C7;split;·exact aN
 exact Vg _
theorem Wh.lt(h:Wh x n m):m<x.length:=by
 cases h with
 |here h _=>exact h
 |step h _ _ _ _=>exact h
theorem vN(b:Jy n x)(g:∀i (l:i<x.length),M i=OS x[i] (N i))(h:∀k,k<x.length->∀m,Xh (N k) m=true↔(k,m)∈Nr x x.length)(a:k<x.length):Xh (M k) m=true↔Yo x k m=false/\C7 x k m=1:=by
 have d:=aH a;rw[g k a,vB (λy e=>⟨λz c=>(b.5 _ d y e z c).1,λz c=>(b.6 _ d y e z c).1⟩) (λz c=>(b.7 _ d z c).1) λp j=>(b.8 _ d p j).1];unfold Yo C7 NA;rw[aC a];simp only;have f:Xh (N k) m=Cg (XP x k) (m:Int):=by rw[eQ,h k a,XD,KE b a]
 rw[f,<-gU,XD]
theorem EC(f:Jy n x)(g:∀i (h:i<x.length),M i=OU x[i])(c:k<x.length)(a:Yo x k m=false)(b:C7 x k m=0):Xh (M k) m=false:=by
 have e:=aH c;rw[g k c,<-gU,WK (λy d z l=>(f.6 _ e y d z l).1) λp j=>(f.8 _ e p j).1];unfold Yo at a;unfold C7 NA at b;rw[aC c]at a b;simp only at a b;rintro(h|⟨y,d,h⟩);·rw[XD.2 h]at a;cases a
 exact UQ _ b y d h
theorem FF(e:Jy n x)(f:∀i (h:i<x.length),M i=OU x[i])(b:k<x.length)(h:Xh (M k) m=false):Yo x k m=false/\C7 x k m≠2:=by
 have d:=aH b;rw[f k b,<-gU,WK (λy c z j=>(e.6 _ d y c z j).1) λp g=>(e.8 _ d p g).1]at h;unfold Yo C7 NA;rw[aC b];simp only;refine⟨?_,Ud _ λy c a=>h<|aZ ⟨y,c,a⟩⟩;rw[<-gU,XD];exact λa=>h<|bC a
theorem Ff(e:Jy n x){l:Vp}(p:∀i (h:i<x.length),M i=OS x[i] (l i))(r:∀i (h:i<x.length),N i=OU x[i])(q:∀k,k<x.length->∀m,Xh (l k) m=true↔(k,m)∈Nr x x.length){ord:Vv}(v:∀k,k<x.length->ord k)(d:k<x.length):
 Sp M N ord (X8 x) k m↔Ol x m k:=by
 constructor
 .intro h
  induction h with
  |init f=>
   have a:=(vN e p q d).1 f;exact⟨a.1,Wh.here d a.2⟩
  |@take k z t f a b g j=>
   have c:=FF e r d g;have o:=qD x k t;have w:=e.1.tg _ d _ a;by_cases u:C7 x k t=1;·exact⟨c.1,Wh.here d u⟩
   have s:=j w;exact⟨c.1,Wh.step d (oN c.2) a s.1 s.2⟩
 rintro⟨f,a⟩
 induction a with
 |here b g=>exact Sp.init<|(vN e p q b).2 ⟨f,g⟩
 |@step k A b g c o y j=>exact Sp.take (v _ b) c (j (e.1.tg _ b _ c) o) (EC e r b f g)
theorem uN(c:Jy n x)(g:m<x.length)(h:(k:Int)∈XP x m):k<n:=by
 have b:=(KE c g).1 h;unfold Nr PW Og at b;let⟨t,a,d⟩:=bV.1 b;have a:=bE.1 a;rw[aC a]at d;let⟨p,i,e⟩:=bV.1 (show _∈List.flatMap _ x[t].1 from d);have f:=List.of_mem_zip e;let⟨z,j,l⟩:=aY.1 f.2;have:=(c.9 t a p i).2 z j;omega
theorem FK(e:Jy n x)(d:m<x.length)(a:C7 x m k=1):k<n:=by
 have f:=aH d;unfold C7 NA at a;rw[aC d]at a;simp only at a;obtain b|⟨y,g,b⟩:=TV _ a
 .rcases dI _ _▸b with c|c;·have:=(e.7 _ f _<|XD.1 c).2;omega
  exact uN e d<|XD.1 c
 have:=(e.5 _ f y g _ b).2;omega
theorem Wh.val(c:Jy n x)(h:Wh x m k):m<n:=by
 induction h with
 |here a b=>exact FK c a b
 |step _ _ _ _ _ d=>exact d
theorem UV.val(a:Jy n x)(b:k<x.length)(h:UV x m k):m<n:=by
 obtain h|⟨t,_,h⟩:=h;·exact uN a b h
 exact h.2.val a
theorem CO{a:Ys}(d:∀m,m<x.length->a m=true->Wh x n m)(e:∀m,m<x.length->C7 x m n=1->a m=true)(f:∀m,m<x.length->C7 x m n=0->∀t∈X8 x m,a t=true->Yo x t n=false->a m=true)(k:m<x.length):a m=true↔Wh x n m:=by
 refine⟨d m k,λh=>?_⟩
 induction h with
 |here b c=>exact e _ b c
 |@step m t b c g i j l=>exact f m b c t g (l j.lt) i
def Of(a:List Xe)(b:Nat):List Int:=match a[b]? with
 |none=>[]
 |some x=>x.1.map Ph.dst
def PA(a:List Xe)(b:Nat):List Int:=match a[b]? with
 |none=>[]
 |some x=>Id x.3
def Tu(a:List Xe)(b:Nat):List Int:=match a[b]? with
 |none=>[]
 |some x=>Z2 x
def OW(a:List Xe)(b:Nat):List (List Int):=match a[b]? with
 |none=>[]
 |some x=>Jv x
theorem qH(a:Wi)(b v:Nat):Yo a b v=Cg (Of a b) (v:Int):=by
 unfold Yo Of;cases a[b]?<;>rfl
structure QN(W:Ub)(base:Nat)(xs:Wi)(b:Nat)(a0:Uy)(n0:Nat)(a1:Uy)(n1:Nat)(a2:Uy)(n2:Nat)(a3:Uy)(n3:Nat)(a4:Uy)(n4:Nat)(a5:Uy)(n5:Nat)(c0 c1 c2 c3 c4 c5:Nat):Prop where
 t:n0=(X8 xs b).length/\Xf W 0 base a0 (Xi<|X8 xs b)
 p:n1=(Of xs b).length/\Xf W 0 base a1 (Of xs b)
 e:n2=(XP xs b).length/\Xf W 0 base a2 (XP xs b)
 r:n3=(OW xs b).length/\TA W (λq=>q<base) a3 (OW xs b)
 d:n4=(Tu xs b).length/\Xf W 0 base a4 (Tu xs b)
 u:n5=(PA xs b).length/\Xf W 0 base a5 (PA xs b)
 bare:∀v:Nat,Calls prog 129 #[.agg #[.slice a0 n0 c0,.slice a1 n1 c1,.slice a2 n2 c2,.slice a3 n3 c3,.slice a4 n4 c4,.slice a5 n5 c5],.int .i64 (v:Int)] W λe w'=>e=.returned (.int .i64 (C7 xs b v:Nat))/\Below W.1.size W w'
theorem YQ.row(t:Jy n x){of:Nat}(W:YQ w (some ⟨m,of,none⟩) x)(a:Below w.1.size w v)(b:k<x.length):
 ∃f y g z h A i K j B l C c0 c1 c2 c3 c4 c5,m<w.1.size/\v.cell? (Hk m<|of+k*6)=some (.slice f y c0)/\v.cell? (Hk m<|of+k*6+1)=some (.slice g z c1)/\v.cell? (Hk m<|of+k*6+2)=some (.slice h A c2)/\v.cell? (Hk m<|of+k*6+3)=some (.slice i K c3)/\v.cell? (Hk m<|of+k*6+4)=some (.slice j B c4)/\v.cell? (Hk m<|of+k*6+5)=some (.slice l C c5)/\y<=2/\z<=4000/\A<=8000000/\B<=4000/\C<=1/\QN v w.1.size x k f y g z h A i K j B l C c0 c1 c2 c3 c4 c5:=by
 let⟨al,ao,us,o,D,ad,c⟩:=W k b;injection o with o;injection o with e1 e2;subst e1 e2;have d:=λu r=>oB a (ad u r) D;have ac:=c.keep (λaj hq _=>a.block aj hq) a.size;let⟨f,c0,V,i0⟩:=c.e0;let⟨g,c1,e1,i1⟩:=c.e1;let⟨h,c2,e2,i2⟩:=c.e2;let⟨i,c3,e3,i3⟩:=c.e3;let⟨j,c4,e4,i4⟩:=c.e4;let⟨l,c5,e5,i5⟩:=c.e5;have L:=d 0 vY;have M:=d 1 vY;have N:=d 2 vY;have O:=d 3 vY;have P:=d 4 vY;have Q:=d 5 vY;rw[V]at L;rw[e1]at M;rw[e2]at N;rw[e3]at O;rw[e4]at P;rw[e5]at Q;have s:=t.lens x[k] (aH b);have J:x[k].te.tg=Xi (X8 x k):=by rw[WM t.okf b,VS b]
 have F:(XP x k).length<=8000000:=by
  unfold XP;rw[aC b];have h1:=V8 t ((k:Nat):Int) x[k].te.tg;have h2:=KJ x[k].te;simp only;omega
 have Y:(Id x[k].te).length<=1:=by unfold Id;split<;>simp
 have G:Of x k=x[k].ps.map Ph.dst:=by unfold Of;rw[aC b]
 have I:PA x k=Id x[k].te:=by unfold PA;rw[aC b]
 have E:Tu x k=Z2 x[k]:=by unfold Tu;rw[aC b]
 have H:OW x k=Jv x[k]:=by unfold OW;rw[aC b]
 have Z:∀e:Nat,C7 x k e=NA x[k] (XP x k) (e:Int):=λe=>by unfold C7;rw[aC b]
 refine⟨f,_,g,_,h,_,i,_,j,_,l,_,c0,c1,c2,c3,c4,c5,D,L,M,N,O,P,Q,KJ _,by rw[bK];exact s.2,F,by unfold Z2;rw[bK];exact s.1,Y,⟨⟨by rw[J];simp[Xi],?_⟩,⟨by rw[G],?_⟩,⟨rfl,i2.at_.keep a⟩,⟨by rw[H],?_⟩,⟨by rw[E],?_⟩,⟨by rw[I],?_⟩,λe=>?_⟩⟩;·rw[<-J];exact i0.at_.keep a
 .rw[G];exact i1.at_.keep a
 .rw[H]
  intro af hi;let⟨S,o',U,p,R,T,aa,X⟩:=i3 af hi;exact⟨S,o',U,⟨p.2,aX p.2 a.size⟩,R,T,oB a aa p.2,λu r=>by
   let⟨b2,o2,e2,q,ab⟩:=X u r;exact⟨b2,o2,e2,⟨q.2,aX q.2 a.size⟩,oB a ab q.2⟩⟩
 .rw[E];exact i4.at_.keep a
 .rw[I];exact i5.at_.keep a
 rw[Z];exact uv (e:Int) (Xa ac) (Xa s.1) (Xa F) _ _ e2 e3 e4 e5
def Un(a:Ys)(n:Nat):Nat:=(List.range n).countP a
theorem vq(a:Ys)(n:Nat):Un a n<=n:=aJ mW sP
theorem tO{a:Ys}:Un a (n+1)=Un a n+(if a n then 1 else 0):=by
 unfold Un;rw[dN,lN];simp[List.countP_cons]
theorem tp{a lv':Ys}(h:∀b,b<n->a b=lv' b):Un a n=Un lv' n:=by
 unfold Un;exact kK λx c=>by rw[h x<|bE.1 c]
theorem t7{a:Ys}{b:Nat}(c:a b=false):∀n,b<n->Un (λz=>if z=b then true else a z) n=Un a n+1
 |0,h=>absurd h oM
 |n+1,h=>by
  rw[tO,tO];by_cases e:b=n
  .subst e;rw[tp (lv':=a) λz d=>by simp[show z≠b by omega]];simp[c]
  rw[t7 c n oM];have:n≠b:=oM;simp only[this,fD];omega
theorem DA{a:Ys}(b:n<m)(h:a n=true):0<Un a m:=by
 unfold Un;exact nC.2 ⟨n,bE.2 b,h⟩
structure Oj(xs:Wi)(v n:Nat)(lv0 lv:Ys)(b:Nat)(gr:Bool):Prop where
 snd:∀z,z<n->lv z=true->Wh xs v z
 here:∀z,z<n->C7 xs z v=1->lv z=true
 no:gr=false->(∀z,z<n->lv z=lv0 z)/\∀z,z<b->C7 xs z v=0->∀t∈X8 xs z,lv t=true->Yo xs t v=false->lv z=true
 yes:gr=true->Un lv0 n<Un lv n/\0<Un lv0 n
theorem Oj.start{a:Ys}(b:∀z,z<m->a z=true->Wh x n z)(c:∀z,z<m->C7 x z n=1->a z=true):Oj x n m a a 0 false :=
 ⟨b,c,λ_=>⟨λ_ _=>rfl,λz d=>absurd d oM⟩,λh=>by cases h⟩
theorem Oj.set{g b:Ys}(h:Oj x n m g b k r)(q:m=x.length)(l:k<m)(p:B∈X8 x k)(f:B<m)(i:C7 x k n=0)(o:b k=false)(d:b B=true)(j:Yo x B n=false):Oj x n m g (λz=>if z=k then true else b z) k true:=by
 refine⟨λz c a=>?_,λz c a=>?_,λe=>(by cases e),λ_=>?_⟩
 .by_cases e:z=k
  .subst e;exact Wh.step oM i p j<|h.1 B f d
  simp only[e,fD]at a;exact h.1 z c a
 .by_cases e:z=k;·simp[e]
  simp only[e,fD];exact h.2 z c a
 rw[t7 o m l];cases hg:r with
 |false=>
  have e:=tp (h.3 hg).1;rw[e];refine⟨oM,?_⟩;rw[<-e];exact DA f d
 |true=>
  have:=h.4 hg;omega
theorem Oj.next{b a:Ys}(h:Oj x n m b a k r)(c:r=false->C7 x k n=0->∀t∈X8 x k,a t=true->Yo x t n=false->a k=true):Oj x n m b a (k+1) r :=
 ⟨h.1,h.2,λe=>⟨(h.3 e).1,λz d=>by
  by_cases e2:z=k;·subst e2;exact c e
  exact(h.3 e).2 z oM⟩,h.4⟩
theorem Oj.done{e a:Ys}(h:Oj x n m e a m false)(d:m=x.length):∀b,b<m->(a b=true↔Wh x n b):=by
 subst d;exact λb c=>CO h.1 h.2 (h.3 rfl).2 c
section
structure OF(w wr:Ub)(n:Nat)(lv op:Ys):Prop where
 low:Below w.1.size w wr
 r1:wr.rowIs w.1.size 4 n λb=>.bool (lv b)
 r2:wr.rowIs (w.1.size+1) 4 n λb=>.bool (op b)
 sz:w.1.size+2<=wr.1.size
section
variable {w wr wr': Ub} {n: Nat} {lv op: Nat -> Bool}
theorem OF.below(h:OF w wr n lv op)(k:Below wr.1.size wr wr'):OF w wr' n lv op :=
 ⟨Xg h.1 k,h.2.of_block<|k.5 _ h.2.lt,h.3.of_block<|k.5 _ h.3.lt,aJ h.4 k.4⟩
theorem OF.congr{a b:Ys}(h:OF w wr n lv op)(e1:∀z,z<n->lv z=a z)(e2:∀z,z<n->op z=b z):OF w wr n a b:=⟨h.1,UC (C:=Value.bool) h.2 e1,UC (C:=Value.bool) h.3 e2,h.4⟩
theorem OF.set1(h:OF w wr n lv op)(b:Nat)(q:Bool):OF w (wr.setCell ⟨w.1.size,b,none⟩ (.bool q)) n (λz=>if z=b then q else lv z) op :=
 ⟨h.1.setCell aA _,TS (C:=Value.bool) h.2 b q,h.3.setOther (by show w.1.size+1≠w.1.size;omega) _,by rw[Xd];exact h.4⟩
theorem OF.set2(h:OF w wr n lv op)(b:Nat)(q:Bool):OF w (wr.setCell ⟨w.1.size+1,b,none⟩ (.bool q)) n lv (λz=>if z=b then q else op z) :=
 ⟨h.1.setCell (by show w.1.size<=w.1.size+1;omega) _,h.2.setOther (by show w.1.size≠w.1.size+1;omega) _,TS (C:=Value.bool) h.3 b q,by rw[Xd];exact h.4⟩
end
def Pt(a:Wi)(v n k:Nat)(lv:Ys):Prop:=(∀z,z<n->lv z=true->Wh a v z)/\(∀z,z<n->C7 a z v=1->lv z=true)/\(n<k+Un lv n\/(k=n/\Un lv n=0))
def PY(w wr:Ub)(d:Wi)(v n:Nat)(lv op:Ys)(c:Uj)(b:Nat):Prop:=∃(g:Bool)(a:Ys),c=.bool g/\OF w wr n a op/\Oj d v n lv a b g
def PV(w wr:Ub)(c:Wi)(v n:Nat)(lv op:Ys)(d:Uj)(b j:Nat):Prop:=∃(g:Bool)(a:Ys),d=.bool g/\OF w wr n a op/\Oj c v n lv a b g/\(a b=false->∀r,r<j->∀t,(X8 c b)[r]?=some t->¬(a t=true/\Yo c t v=false))
theorem BS{bh:Nat}(v:Nat){n:Nat}(c:Nat){bf of:Nat}{a:Wi}{w:Ub}(hF:Hs (YQ w (some ⟨bf,of,none⟩) a))(s:Hs (n=a.length))(B:Hs (Jy bh a)):
 Calls prog 77 #[Hm bf of n c,Hp v] w λf w'=>∃g,f=.returned (Hl g n n)/\Below w.1.size w w'/\w.1.size<=g/\∃lv:Ys,w'.rowIs g 4 n (λb=>.bool (lv b))/\∀b,b<n->(lv b=true↔Wh a v b):=by
 have hn:n<=1000:=oP s.o B.1.2;have b0:0<n:=oP s.o B.1.1;have bn:=fM (P:=prog) 70 4 (.bool false) 1 underlying70 Q7 rfl .i64 .i64 n oM oM;have af:=Xa<|dG w (.bool false) n 4;have aj:=Xa<|dG (w.alloc<|.cells (madeCells #[.bool false] n) 4) (.bool false) n 4
 go_in
 go_wp2_with fail
 have al:Hs (OF w ((w.alloc<|.cells (madeCells #[.bool false] n) 4).alloc (.cells (madeCells #[.bool false] n) 4)) n (λz=>decide (z<0)&&decide (C7 a z v=1)) λz=>decide (z<0)&&decide (C7 a z v=0)):=Xa ⟨Xb (Xb (Below.refl _ _) _) _,UC (C:=Value.bool) (af.alloc _) λz _=>sP,UC (C:=Value.bool) (by have:=aj.o;rwa[aO]at this) λz _=>sP,sP⟩;clear af aj bn;generalize (w.alloc _).alloc _=w2 at*
 go_loopw [7] (λW wr=>∃b:Nat,b<=n/\W=Hp b/\Hs (OF w wr n (λz=>decide (z<b)&&decide (C7 a z v=1)) λz=>decide (z<b)&&decide (C7 a z v=0))) λW _=>n-(intOf W).toNat
 case atStart=>exact⟨0,aN,rfl,al⟩
 clear al;obtain⟨b,hb,rfl,d⟩:=hrel;by_cases A:b<n
 .let⟨a0,O,a1,n1,a2,n2,a3,n3,a4,n4,a5,n5,c0,c1,c2,c3,c4,c5,aq,x0,x1,x2,x3,x4,x5,_,_,_,_,_,J⟩:=YQ.row B hF d.1 (show b<a.length by have:=s.o;omega);have ab:=Xa<|J.7 v;clear J;go_wp2_with fail
  refine ab.mono ?_;rintro f w3⟨rfl,ap⟩;have E:=Xa<|d.below ap;have Y:=E.2.cell A;have Z:=E.3.cell A;have z1:=E.2.frozen b;have z2:=E.3.frozen b;clear ap ab x0 x1 x2 x3 x4 x5;let⟨q1,bo⟩:∃aa:Bool,(((C7 a b v:Nat):Int)==1)=aa:=⟨_,rfl⟩;let⟨q2,bp⟩:∃aa:Bool,(((C7 a b v:Nat):Int)==0)=aa:=⟨_,rfl⟩;have HQ:Hs (q1=decide (C7 a b v=1)/\q2=decide (C7 a b v=0)):=Xa (by
   rw[<-bo,<-bp];constructor;·rw[eQ,iA,bD];omega
   rw[eQ,iA,bD];omega)
  have b3:∀a7,(w3.setCell (Hk w.1.size b) a7).cell? (Hk (w.1.size+1) b)=w3.cell? (Hk (w.1.size+1) b):=λa7=>bZ (Below.heap_setCell _ _ _ _<|by show w.1.size+1≠w.1.size;omega);go_wp2
  exact⟨⟨b+1,oM,gM,Xa (((E.set1 b q1).set2 b q2).congr (λz e=>by
   by_cases f:z=b;·subst f;simp[HQ.1]
   .have:z<b+1↔z<b:=oM
    simp[f,this]) (λz e=>by
   by_cases f:z=b;·subst f;simp[HQ.2]
   have:z<b+1↔z<b:=oM
   simp[f,this]))⟩,by simp[intOf];omega⟩
 have I:n=b:=oM;have D:Hs (OF w wr n (λz=>decide (C7 a z v=1)) λz=>decide (C7 a z v=0)):=Xa (d.congr (λz e=>by simp[<-I,e]) λz e=>by simp[<-I,e]);subst I;clear d;have x:Hs (Pt a v n n λz=>decide (C7 a z v=1)):=Xa ⟨λz e h=>Wh.here (oN s.o) (fV h),λz _ h=>eB h,oM⟩;go_wp2_with fail
 generalize (λz=>decide (C7 a z v=1))=br at*;generalize o:(λz=>decide (C7 a z v=0))=k at*;have ac:Hs (∀z,k z=decide (C7 a z v=0)):=Xa (λz=>by rw[<-o]);clear o;generalize wr=w5 at*
 go_loopw [9] (λr wr=>∃(y:Nat)(lv:Ys),y<=n/\r=Hp y/\Hs (OF w wr n lv k)/\Hs (Pt a v n y lv)) λr _=>(intOf r).toNat
 case atStart=>exact⟨n,br,aA,rfl,D,x⟩
 clear D x;obtain⟨y,lv,hk,rfl,D,x⟩:=hrel;have bv:0<y:=by
  have F:=x.2.2;have G:=vq lv n;omega
 have u:Hs (PY w wr a v n lv k (.bool false) 0):=Xa ⟨false,lv,rfl,D,Oj.start x.1 x.2.1⟩;clear D;go_wp2_with fail
 generalize wr=w6 at*
 go_loopw [10,11] (λT S wr=>∃b:Nat,b<=n/\S=Hp b/\Hs (PY w wr a v n lv k T b)) λ_ S _=>n-(intOf S).toNat
 case atStart=>exact⟨0,aN,rfl,u⟩
 clear u;obtain⟨b,hb,rfl,u⟩:=hrel;by_cases A:b<n
 .have ar:b<a.length:=oN s.o
  let⟨a0,O,a1,n1,a2,n2,a3,n3,a4,n4,a5,n5,c0,c1,c2,c3,c4,c5,aq,y0,_,_,_,_,_,b1,_,_,_,_,J⟩:=YQ.row B hF (Below.refl w.1.size w) ar;have R:=Xa J.t;clear J;have C:Hs (PV w wr a v n lv k u10 b 0):=Xa (by
   let⟨g,i,f,F,G⟩:=u.o;exact⟨g,i,f,F,G,λ_ r K=>absurd K oM⟩)
  clear u;go_wp2_with fail
  generalize wr=w7 at*
  go_loopw [10,12] (λT X wr=>∃j:Nat,j<=O/\X=Hp j/\Hs (PV w wr a v n lv k T b j)) λ_ X _=>O-(intOf X).toNat
  case atStart=>exact⟨0,aN,rfl,C⟩
  clear C;obtain⟨j,hj,rfl,C⟩:=hrel;obtain⟨g,i,rfl,p,H,hJ⟩:=C.o;have d:=Xa p;have m:=Xa H;have Q:=Xa hJ;have k0:=oB p.1 y0 aq;have Y:=p.2.cell A;have Z:=p.3.cell A;clear C p H hJ;by_cases o:C7 a b v=0
  .have q:k b=true:=by rw[ac.o];exact eB o
   rw[q]at Z;cases hlb:i b with
   |true=>
    rw[hlb]at Y;have l:Hs (PY w wr a v n lv k (.bool g) (b+1)):=Xa ⟨g,i,rfl,d,m.next λ_ _ _ _ _ _=>hlb⟩;clear hlb q;go_wp2;exact⟨⟨b+1,oM,gM,l⟩,by simp[intOf];omega⟩
   |false=>
    rw[hlb]at Y;by_cases bm:j<O
    .have V:j<(X8 a b).length:=by rw[<-R.1];exact bm
     have bl:j<(Xi<|X8 a b).length:=by simp[Xi];exact V
     obtain⟨bt,ot,rfl,⟨_,bi⟩,L⟩:=R.2 j bl;have ao:(Xi<|X8 a b)[j]=(((X8 a b)[j]:Nat):Int):=by simp[Xi]
     rw[ao]at L;have N:=aH V;have a6:=B.1.tg _ ar _ N;have P:=Xa<|aC V;let⟨t,M⟩:∃t,t=(X8 a b)[j]:=⟨_,rfl⟩;rw[<-M]at L N a6 P;have be:=Xa N;have az:t<n:=oN s.o;have kt:=oB d.1 L bi;have kl:=d.2.cell az;let⟨d0,m0,d1,m1,d2,m2,d3,m3,d4,m4,d5,m5,f0,f1,f2,f3,f4,f5,_,_,t1,_,_,_,_,_,bx,_,_,_,U⟩:=YQ.row B hF d.1 a6;have a8:=Xa<|YF d1 f1 (v:Int) (Of a t) 0 w.1.size wr (Xa U.p.2) (Xa U.p.1) oM;have ad:=Xa<|qH a t v;clear L N M ao U;cases hlt':i t with
     |false=>
      rw[hlt']at kl;have l:Hs (PV w wr a v n lv k (.bool g) b (j+1)):=Xa ⟨g,i,rfl,d,m,λh r K z e=>by
       by_cases f:r=j
       .subst f;rw[P.o]at e;injection e with e;subst e;rw[hlt'];exact λh=>by cases h.1
       exact Q h r oM z e⟩
      clear hlt' hlb q;go_wp2;exact⟨⟨j+1,oM,gM,l⟩,by simp[intOf];omega⟩
     |true=>
      rw[hlt']at kl;have ba:=Xa hlt';have a9:=Xa hlb;have bc:=Xa o;have z1:=d.2.frozen b;clear hlt' hlb q o;go_wp2_with fail
      refine a8.mono ?_;rintro f w8⟨rfl,bq⟩;subst bq;cases hph:Cg (Of a t) (v:Int)with
      |true=>
       have l:Hs (PV w w8 a v n lv k (.bool g) b (j+1)):=Xa ⟨g,i,rfl,d,m,λh r K z e=>by
        by_cases f:r=j
        .subst f;rw[P.o]at e;injection e with e;subst e;rw[ad.o,hph];exact λh=>by cases h.2
        exact Q h r oM z e⟩
       clear hph;go_wp2_with fail
       refine⟨?_,by simp[intOf];omega⟩
       first
        |exact⟨j+1,oM,gM,l⟩
        |((repeat apply gP);refine⟨?_,rfl⟩;exact⟨j+1,oM,gM,l⟩)
      |false=>
       have l:Hs (PV w (w8.setCell (Hk w.1.size b) (.bool true)) a v n lv k (.bool true) b (j+1)):=Xa ⟨true,_,rfl,d.set1 b true,m.set s A be az bc a9 ba (by rw[ad.o];exact hph),λh=>by simp at h⟩;clear hph;go_wp2_with fail
       refine⟨?_,by simp[intOf];omega⟩
       first
        |exact⟨j+1,oM,gM,l⟩
        |((repeat apply gP);refine⟨?_,rfl⟩;exact⟨j+1,oM,gM,l⟩)
    have l:Hs (PY w wr a v n lv k (.bool g) (b+1)):=Xa ⟨g,i,rfl,d,m.next (λ_ _ t M F G=>by
     let⟨r,K,f⟩:=bR M;exact absurd ⟨F,G⟩ (Q hlb r (oN R.1) t (by rw[aC K,f])))⟩
    clear hlb q;go_wp2;exact⟨⟨b+1,oM,gM,l⟩,by simp[intOf];omega⟩
  have q:k b=false:=by rw[ac.o];exact dJ o
  rw[q]at Z;have l:Hs (PY w wr a v n lv k (.bool g) (b+1)):=Xa ⟨g,i,rfl,d,m.next λ_ h=>absurd h o⟩;clear q o;go_wp2;exact⟨⟨b+1,oM,gM,l⟩,by simp[intOf];omega⟩
 have I:b=n:=oM;subst I;obtain⟨g,i,rfl,p,H⟩:=u.o;have d:=Xa p;have m:=Xa H;clear u p H;cases g with
 |true=>
  have bd:Hs (Pt a v b (y-1) i):=Xa ⟨m.1,m.2,by
   have F:=m.4 rfl;have G:=x.2.2;have h3:=vq i b;omega⟩
  go_wp2;exact⟨⟨y-1,i,oM,gM,d,bd⟩,by simp[intOf];omega⟩
 |false=>
  go_wp2;go_ret;exact⟨w.1.size,rfl,d.1,aA,i,d.2,m.done s⟩
end
def QC(a b:Ub):Prop:=a=b
def QM(c:Wi)(v b:Nat)(w:Ub)(e:Ending)(a:Ub):Prop:=∃s:Bool,e=.returned (.bool s)/\(s=true↔UV c v b)/\Below w.1.size w a
theorem A8(c:Nat){of:Nat}{E:Ys}(hF:Hs (YQ w (some ⟨B,of,none⟩) x))(C:Hs (k=x.length))(o:Hs (Jy n x))(hb:i<k)(b:Hs (w.rowIs g 4 k λz=>.bool (E z)))(aa:Hs (∀z,z<k->(E z=true↔Wh x m z))):
 Calls prog 78 #[Hm B of k c,Hl g k k,Hp m,Hp i] w λe w'=>QM x m i w e w':=by
 have hn:k<=1000:=oP C.o o.1.2;have N:i<x.length:=oN C.o;let⟨a0,F,a1,n1,a2,n2,a3,n3,a4,n4,a5,n5,c0,c1,c2,c3,c4,c5,ac,x0,_,x2,_,_,_,aj,_,al,_,_,l⟩:=YQ.row o hF (Below.refl w.1.size w) N;have u:=Xa l.t;have d:=Xa<|qu c2 (m:Int) (Xa l.e.2) (Xa l.e.1) oM;clear l;cases hed:Cg (XP x i) (m:Int)with
 |true=>
  have s:Hs (UV x m i):=Xa<|bC (XD.1 hed);rw[hed]at d;clear hed
  go_in
  go_wp2_with fail
  refine d.mono ?_;rintro e w3⟨rfl,A⟩;have e3:=A.symm;subst e3;go_wp2;go_ret;exact⟨true,rfl,⟨λ_=>s,λ_=>rfl⟩,Below.refl _ _⟩
 |false=>
  have U:Hs (¬(m:Int)∈XP x i):=Xa (λh=>by rw[XD.2 h]at hed;cases hed);rw[hed]at d;clear hed
  go_in
  go_wp2_with fail
  refine d.mono ?_;rintro e w3⟨rfl,A⟩;have e3:=A.symm;subst e3;clear d;go_wp2
  go_loopw [9] (λD wr=>∃j:Nat,j<=F/\D=Hp j/\Hs (QC wr w)/\Hs (∀r,r<j->∀t,(X8 x i)[r]?=some t->¬Ol x m t)) λD _=>F-(intOf D).toNat
  case atStart=>exact⟨0,aN,rfl,Xa rfl,Xa λr b=>absurd b oM⟩
  obtain⟨j,hj,rfl,L,J⟩:=hrel;have X:=Eq.symm L;clear L;subst X;by_cases Z:j<F
  .have y:j<(X8 x i).length:=by rw[<-u.1];exact Z
   have Y:j<(Xi<|X8 x i).length:=by simp[Xi];exact y
   obtain⟨bt,ot,rfl,⟨_,ad⟩,O⟩:=u.2 j Y;have M:(Xi<|X8 x i)[j]=(((X8 x i)[j]:Nat):Int):=by simp[Xi]
   rw[M]at O;have q:=aH y;have Q:=o.1.tg _ N _ q;have G:=Xa<|aC y;let⟨t,p⟩:∃t,t=(X8 x i)[j]:=⟨_,rfl⟩;rw[<-p]at O q Q G;have V:=Xa q;have P:t<k:=oN C.o
   have R:=b.cell P;have H:=Xa<|aa.o t P;let⟨d0,m0,d1,m1,d2,m2,d3,m3,d4,m4,d5,m5,f0,f1,f2,f3,f4,f5,_,_,t1,_,_,_,_,_,af,_,_,_,v⟩:=YQ.row o hF (Below.refl w.1.size w) Q;have S:=Xa<|YF d1 f1 (m:Int) (Of x t) 0 w.1.size w (Xa v.p.2) (Xa v.p.1) oM;have K:=Xa<|qH x t m;clear q p M v;have I:Hs (¬Ol x m t->∀r,r<j+1->∀t,(X8 x i)[r]?=some t->¬Ol x m t):=Xa (λh r b z f=>by
    by_cases e:r=j
    .subst e;rw[G.o]at f;injection f with f;subst f;exact h
    exact J r oM z f)
   cases hlt':E t with
   |false=>
    rw[hlt']at R;have a:=Xa (I.o λh=>by rw[H.2 h.2]at hlt';cases hlt');clear hlt';go_wp2;exact⟨⟨j+1,oM,gM,Xa rfl,a⟩,by simp[intOf];omega⟩
   |true=>
    rw[hlt']at R;have T:=Xa<|H.1 hlt';clear hlt';go_wp2_with fail
    refine S.mono ?_;rintro e w8⟨rfl,ab⟩;have W:=ab.symm;subst W;cases hph:Cg (Of x t) (m:Int)with
    |true=>
     have a:Hs (∀r,r<j+1->∀t,(X8 x i)[r]?=some t->¬Ol x m t):=Xa (I.o λh=>by have:=h.1;rw[K.o,hph]at this;cases this);clear hph;go_wp2_with fail
     refine⟨?_,by simp[intOf];omega⟩
     first
      |exact⟨j+1,oM,gM,Xa rfl,a⟩
      |((repeat apply gP);refine⟨?_,rfl⟩;exact⟨j+1,oM,gM,Xa rfl,a⟩)
    |false=>
     have s:Hs (UV x m i):=Xa (aZ ⟨t,V,by rw[K.o];exact hph,T⟩);clear hph;go_wp2;go_ret;exact⟨true,rfl,⟨λ_=>s,λ_=>rfl⟩,Below.refl _ _⟩
  have a:Hs (¬UV x m i):=Xa (by
   rintro(h|⟨t,p,h⟩);·exact U h
   let⟨r,b,e⟩:=bR p
   exact J r (oN u.1) t (by rw[aC b,e]) h)
  go_wp2;go_ret;exact⟨false,rfl,⟨λh=>(by cases h),λh=>absurd h a⟩,Below.refl _ _⟩
def JT(x:Xe)(v:Nat)(q:Bool)(j:Nat):Bool:=decide (Ya (v:Int) (Cg (Id x.3) (v:Int)||q) (x.2.drop j)=1)
theorem WT(v:Nat)(a:Bool)(b:q.2.length<=n):JT q v a n=(Cg (Id q.3) (v:Int)||a):=by
 unfold JT;rw[mP b];unfold Ya;cases (Cg (Id q.3) (v:Int)||a)<;>simp
theorem qe(v:Nat)(a:Bool)(c:n<q.2.length):JT q v a n=(Cg (Iw q.2[n]) (v:Int)||(JT q v a (n+1)&&!decide (H7 q.2[n]=(v:Int)))):=by
 unfold JT;rw[gZ c];generalize q.2.drop (n+1)=d;show decide ((if Cg (Iw q.2[n]) (v:Int)then 1 else if H7 q.2[n]=(v:Int)then 2 else Ya (v:Int) _ d)=1)=_;by_cases e1:Cg (Iw q.2[n]) (v:Int)=true;·rw[aU e1,e1];simp
 rw[aM e1];have b:Cg (Iw q.2[n]) (v:Int)=false:=by simpa using e1
 rw[b];by_cases e2:H7 q.2[n]=(v:Int);·rw[aU e2];simp[e2]
 rw[aM e2];simp[e2]
def Ox(a:List Xe)(x:Xe)(b i v:Nat)(q:Bool):Bool:=match i with
 |0=>JT x v q 0||Yo a b v
 |j+1=>JT x v q (j+1)||(match x.2[j]? with
  |none=>false
  |some y=>decide (H7 y=(v:Int)))
theorem tf{v:Int}{f d:Bool}(h:f=true->d=true):∀(a:Vr),Ya v f a=1->Ya v d a=1
 |[],b=>by
  unfold Ya at b |-;cases hf:f with
  |true=>rw[h hf];rfl
  |false=>rw[hf]at b;cases b
 |y::a,b=>by
  show(if Cg (Iw y) v then 1 else if H7 y=v then 2 else Ya v d a)=1;have c:(if Cg (Iw y) v then 1 else if H7 y=v then 2 else Ya v f a)=1:=b;by_cases e1:Cg (Iw y) v=true;·rw[aU e1]
  rw[aM e1]at c |-;by_cases e2:H7 y=v;·rw[aU e2]at c;cases c
  rw[aM e2]at c |-;exact tf h a c
theorem tu{v:Int}{f f':Bool}:∀(a:Vr),Ya v f a=2->Ya v f' a=2
 |[],c=>by
  unfold Ya at c;cases f<;>cases c
 |y::a,c=>by
  show(if Cg (Iw y) v then 1 else if H7 y=v then 2 else Ya v f' a)=2;have b:(if Cg (Iw y) v then 1 else if H7 y=v then 2 else Ya v f a)=2:=c;by_cases e1:Cg (Iw y) v=true;·rw[aU e1]at b;cases b
  rw[aM e1]at b |-;by_cases e2:H7 y=v;·rw[aU e2]
  rw[aM e2]at b |-;exact tu a b
theorem tS{v:Int}{f f':Bool}:∀(b:Vr),Ya v f b=0->f=false/\(Ya v f' b=1↔f'=true)
 |[],c=>by
  unfold Ya at c |-;cases f;·exact⟨rfl,by cases f'<;>simp⟩
  cases c
 |y::b,c=>by
  have a:(if Cg (Iw y) v then 1 else if H7 y=v then 2 else Ya v f b)=0:=c;by_cases e1:Cg (Iw y) v=true;·rw[aU e1]at a;cases a
  rw[aM e1]at a;by_cases e2:H7 y=v;·rw[aU e2]at a;cases a
  rw[aM e2]at a;have d:=tS (f':=f') b a;refine⟨d.1,?_⟩;show(if Cg (Iw y) v then 1 else if H7 y=v then 2 else Ya v f' b)=1↔_;rw[aM e1,aM e2];exact d.2
theorem vk(d:n<x.length)(hq:r=true↔UV x m n):JT x[n] m r 0=true↔Wh x m n:=by
 unfold JT;rw[List.drop_zero,bD];have e:C7 x n m=Ya (m:Int) (Cg (Id x[n].3) (m:Int)||Cg (XP x n) (m:Int)) x[n].2:=by unfold C7 NA;rw[aC d]
 have v:=qD x n m;have q:=λh=>hq.2<|bC (XD.1 h);have s:C7 x n m=0\/C7 x n m=1\/C7 x n m=2:=oM;obtain b|i|c:=s
 .have g:=b;rw[e]at g;have l:=tS (f':=Cg (Id x[n].3) (m:Int)||r) x[n].2 g;rw[l.2];have f:Cg (Id x[n].3) (m:Int)=false/\Cg (XP x n) (m:Int)=false:=by simpa using l.1
  rw[f.1,jV,hq];constructor
  .rintro(h|⟨t,u,h⟩);·rw[XD.2 h]at f;cases f.2
   exact Wh.step d b u h.1 h.2
  intro h;cases h with
  |here _ a=>rw[b]at a;cases a
  |@step _ t _ _ a o p=>exact aZ ⟨t,a,o,p⟩
 .have j:=i;rw[e]at j;refine⟨λ_=>Wh.here d i,λ_=>tf (λh=>?_) _ j⟩;obtain a|a:=dI _ _▸h;·rw[a];rfl
  rw[q a];simp
 have k:=c;rw[e]at k;rw[tu (f':=Cg (Id x[n].3) (m:Int)||r) _ k];constructor;·intro h;cases h
 intro h;cases h with
 |here _ a=>rw[c]at a;cases a
 |step _ a _ _ _=>rw[c]at a;cases a
def VI(W:Wk)(q:Nat×Wc×Wc):Wk:=E2 (Js (Uo W q) (X9 q.2.2)) (X9 q.2.1)
def N9(m:Nat)(W:Wk)(q:Nat×Wc×Wc):List (Nat×Wk):=if q.1<=m then [(q.1,Uo W q)]else []
def TZ(m:Nat):(Nat->Nat)->List (Nat×List Int×List Int)->List (Nat×(Nat->Nat))
 |_,[]=>[]
 |W,q::l=>N9 m W q++TZ m (VI W q) l
theorem Ky(m:Nat)(q:Nat×Wc×Wc):∀(l:List (Nat×Wc×Wc))(W:Wk),TZ m W (l++[q])=TZ m W l++N9 m (l.foldl VI W) q
 |[],W=>by simp[TZ]
 |p::l,W=>by
  show N9 m W p++TZ m (VI W p) (l++[q])=(N9 m W p++TZ m (VI W p) l)++N9 m (l.foldl VI<|VI W p) q;rw[Ky m q l,cK]
theorem Fy(h:XA f)(q:Nat×Wc×Wc):XA (Uo f q)/\XA (VI f q):=by
 have a:XA (Uo f q):=Zs _ h;exact⟨a,Zs _<|JX _ a⟩
theorem Dk{l:List (Nat×Wc×Wc)}(h:XA f):XA (l.foldl VI f):=by
 induction l generalizing f with
 |nil=>exact h
 |cons q l a=>exact a (Fy h q).2
theorem qI(m:Nat):∀(l:List (Nat×Wc×Wc))(W:Wk),(TZ m W l).length<=l.length
 |[],_=>aA
 |q::l,W=>by
  have:=qI m l<|VI W q;have h:(N9 m W q).length<=1:=by unfold N9;split<;>simp
  show(N9 m W q++TZ m (VI W q) l).length<=l.length+1;rw[aQ];omega
structure Sd where
 i:Nat
 C:Nat
 W:Wk
def Sd.dat(p:Sd):Nat×Wk:=(p.i,p.W)
def rx(a z:Nat)(p:Sd):Zh:=#[.int .i64 (p.i:Int),.agg #[.slice (some ⟨z,0,none⟩) a p.C]]
def xn(a z:Nat)(p:Sd)(V:Ub):Prop:=Cp V z a p.C p.W/\XA p.W
structure PB(W:Ub)(n₁ l Bl Bx gl Kw C1 m:Nat)(ia:Uy)(ic:Nat)(W0:Wk)(J:Nat->List Sd->Vy)(pre:List Pl)(V:Ub):Prop where
 js:∃ss:List Sd,ss.map Sd.dat=TZ m W0 (pre.map Pl.dat)/\J gl ss V
 y:V.cell? ⟨W.1.size,0,none⟩=some (.func (.yield l) #[] #[])
 lv:V.cell? ⟨Bl,0,none⟩=some (.slice (some ⟨gl,0,none⟩) Kw C1)
 ws:Cp V gl Kw C1 ((pre.map Pl.dat).foldl VI W0)
 bx:V.cell? ⟨Bx,1,none⟩=some (.slice ia m ic)
 sz:n₁<=V.1.size
theorem PB.own{Bx:Nat}{J:Nat->List Sd->Vy}(t:∀C,OwnFrom w.1.size<|J C)(u:w.1.size<n)(x:k<n)(y:Bx<n)(v:B<n):OwnFrom n (PB w n m k Bx B g i j p c f J):=λE A V row h d q=>by
 have z:=h.6;have a:∀b,b<n->V.1[b]?=A.1[b]?:=λb D=>d.5 b oM (λe=>by have:=(q b e.symm).1;omega);let⟨l,o,s⟩:=h.1;exact⟨⟨l,o,t B l A V row s d λr e=>⟨oN<|(q r e).1,(q r e).2⟩⟩,(Xc<|a _ u).trans h.y,(Xc<|a _ x).trans h.3,h.4.of_block<|a _ v,(Xc<|a _ y).trans h.5,aJ z d.4⟩
def Pc(x:Xe)(a:Wk):Wk:=VI a (x.2.length+1,Id x.3,[])
def Ou(x:Xe)(a:Wk)(k:Nat):Wk:=((Us x.2.length k).map (VH x)).foldl VI (Pc x a)
theorem qx(q:Nat×Wc×Wc):Xh (Uo f q) n=(decide (n∈X9 q.2.2)||Xh f n):=by
 unfold Uo;rw[YR]
theorem vx(q:Nat×Wc×Wc):Xh (VI f q) n=(decide (n∈X9 q.2.1)||(decide (n∉X9 q.2.2)&&Xh f n)):=by
 unfold VI;rw[YR,Kt,qx];by_cases h:n∈X9 q.2.2<;>simp[h]
theorem Ds(a:Wk)(b:n<q.2.length):Ou q a n=VI (Ou q a<|n+1) (VH q ⟨n,b⟩):=by
 unfold Ou;rw[TJ b,bG,dT];rfl
theorem qQ{x:Xe}{a:Wk}{v:Nat}{q:Bool}(hq:Xh a v=q)(g:∀y∈x.2,(∀v∈Iw y,0<=v)/\∀v∈BW y,0<=v)(f:∀v∈Id x.3,0<=v):∀d k,k+d=x.2.length->Xh (Ou x a k) v=JT x v q k
 |0,k,b=>by
  have b:k=x.2.length:=oM;subst b;rw[WT v q<|aA];unfold Ou;rw[Ua];show Xh (VI a (x.2.length+1,Id x.3,[])) v=_;rw[vx,hq,eQ,dI,dI,bD,YV f,XD];simp[X9]
 |d+1,k,b=>by
  have c:k<x.2.length:=oM;have h:=qQ hq g f d (k+1) oM;have e:=g x.2[k] (aH c);rw[Ds a c,vx,h,qe v q c];show(decide (v∈X9 (Iw x.2[k]))||(decide (v∉X9 (BW x.2[k]))&&JT x v q (k+1)))=_;have e1:decide (v∈X9 (Iw x.2[k]))=Cg (Iw x.2[k]) (v:Int):=by rw[eQ,bD,YV e.1,XD]
  have e2:decide (v∉X9 (BW x.2[k]))=!decide (H7 x.2[k]=(v:Int)):=by
   rw[eQ];simp only[bD,lV,fC,YV e.2,YN]
  rw[e1,e2,Bool.and_comm]
theorem vz(x:Xe)(a:Wk):∀d k,k+d=x.2.length->TZ x.2.length (Pc x a) ((Us x.2.length k).map (VH x))=(Us x.2.length k).map λj:Fin x.2.length=>((j:Nat)+1,Uo (Ou x a<|(j:Nat)+1) (VH x j))
 |0,k,b=>by
  have b:k=x.2.length:=oM;subst b;rw[Ua];rfl
 |d+1,k,b=>by
  have c:k<x.2.length:=oM;have e:=vz x a d (k+1) oM;rw[TJ c,bG,bG,eH,fZ,Ky,e];congr 1;unfold N9;rw[aU<|show(VH x ⟨k,c⟩).1<=x.2.length from c];rfl
theorem qw(x:Xe)(a:Wk):TZ x.2.length a (NS x)=((Us x.2.length 0).map λj:Fin x.2.length=>((j:Nat)+1,Uo (Ou x a<|(j:Nat)+1) (VH x j)))++[(0,Uo (Ou x a 0) (0,[],x.1.map Ph.dst))]:=by
 unfold NS;show N9 x.2.length a (x.2.length+1,Id x.3,[])++TZ x.2.length (Pc x a) ((Us x.2.length 0).map (VH x)++[(0,[],x.1.map Ph.dst)])=_;rw[Ky,vz x a x.2.length 0 oM];have e1:N9 x.2.length a (x.2.length+1,Id x.3,[])=[]:=by
  unfold N9;rw[aM sP]
 have e2:N9 x.2.length (((Us x.2.length 0).map (VH x)).foldl VI (Pc x a)) (0,[],x.1.map Ph.dst)=[(0,Uo (Ou x a 0) (0,[],x.1.map Ph.dst))]:=by
  unfold N9;rw[aU<|aN];rfl
 rw[e1,e2];rfl
theorem FQ(d:Jy n x)(i:m<x.length)(hq:Xh f k=r)(h:(B,F)∈TZ x[m].2.length f (NS x[m])):B<=x[m].2.length/\Xh F k=Ox x x[m] m B k r:=by
 have c:=aH i;have b:∀y∈x[m].2,(∀k∈Iw y,0<=k)/\∀k∈BW y,0<=k:=λy b=>⟨λz a=>(d.5 _ c y b z a).1,λz a=>(d.6 _ c y b z a).1⟩;have l:=λz a=>(d.7 _ c z a).1;rw[qw]at h;obtain h|h:=bU.1 h
 .let⟨j,_,e⟩:=aY.1 h
  have e1:(j:Nat)+1=B:=fI Prod.fst e;have e2:Uo (Ou x[m] f ((j:Nat)+1)) (VH x[m] j)=F:=fI Prod.snd e;subst e1 e2;have g:=j.2;refine⟨g,?_⟩;rw[qx,qQ hq b l (x[m].2.length-(j+1)) (j+1) oM];show _=(JT x[m] k r ((j:Nat)+1)||(match x[m].2[(j:Nat)]? with
   |none=>false
   |some y=>decide (H7 y=(k:Int))))
  rw[aC g,nF];congr 1;rw[eQ,bD,bD,YN];exact YV (b _<|aH g).2
 have e:=cS.1 h;have e1:B=0:=fI Prod.fst e;have e2:F=Uo (Ou x[m] f 0) (0,[],x[m].1.map Ph.dst):=fI Prod.snd e;subst e1 e2;refine⟨aN,?_⟩;rw[qx,qQ hq b l x[m].2.length 0 oM];show _=(JT x[m] k r 0||Yo x m k);rw[nF];congr 1;unfold Yo;rw[aC i,eQ,bD];show k∈X9 (x[m].1.map Ph.dst)↔Cg (x[m].1.map Ph.dst) (k:Int)=true;rw[XD];exact YV λz a=>by obtain⟨p,o,rfl⟩:=aY.1 a;exact(d.8 _ c p o).1
theorem wm(d:Jy n x)(e:m<x.length)(hq:r=true->k<n)(h:JT x[m] k r B=true):k<n:=by
 have c:=aH e;unfold JT at h;obtain a|⟨y,f,a⟩:=TV _ (fV h)
 .rcases dI _ _▸a with b|b;·have:=(d.7 _ c _<|XD.1 b).2;omega
  exact hq b
 have:=(d.5 _ c y (List.mem_of_mem_drop f) _ a).2;omega
theorem Gp(c:Jy n x)(b:m<x.length)(hq:r=true->k<n)(h:Ox x x[m] m B k r=true):k<n:=by
 have d:=aH b;cases B with
 |zero=>
  obtain a|a:=dI _ _▸(show(JT x[m] k r 0||Yo x m k)=true from h);·exact wm c b hq a
  unfold Yo at a;rw[aC b]at a;let⟨p,g,i⟩:=aY.1<|XD.1 a;have:=(c.8 _ d p g).2;omega
 |succ j=>
  have e:(JT x[m] k r (j+1)||(match x[m].2[j]? with
   |none=>false
   |some y=>decide (H7 y=(k:Int))))=true:=h
  obtain a|a:=dI _ _▸e;·exact wm c b hq a
  cases hj:x[m].2[j]? with
  |none=>rw[hj]at a;cases a
  |some y=>
   rw[hj]at a;have f:=YN.1<|fV a;have:=(c.6 _ d y (eN hj) _ f).2;omega
open Classical in
noncomputable def Uq(a:Wi)(x:Xe)(V b i:Nat):Wa:=(List.range V).filter λv=>Ox a x b i v<|decide (UV a v b)
open Classical in
theorem wW(b:Jy n x)(a:m<x.length)(l:n<=k)(hq:∀v,v<k->(Xh f v=true↔UV x v m)){W:Wk}(h:(i,W)∈TZ x[m].2.length f (NS x[m])):Mq W k=Uq x x[m] n m i:=by
 have d:∀v,v<k->Xh W v=Ox x x[m] m i v (decide (UV x v m)):=λv c=>(FQ b a (by rw[eQ,hq v c,bD]) h).2
 rw[qB l (λv o e=>by
  rw[<-gU,d v e];intro g;have:=Gp b a (λj=>(fV j:UV x v m).val b a) g;omega)]
 unfold Mq Uq;apply lW;intro v c;have:=bE.1 c;exact d v oM
theorem rk{e1 s1:Nat}{v1:Uj}{c1:Wo}(h:w.ownsRow n e1 s1 v1 m c1)(k:Below w.1.size w v):v.ownsRow n e1 s1 v1 m c1:=by
 refine h.kept (row:=none) ⟨k.1,k.2,k.3,k.4,λq hq _=>k.5 q hq⟩ ?_;cases v1.ownBlock<;>simp
theorem Md(w:Ub)(a:Wn):∃c b,a.length<=c/\(convert 9 22<|.string (K8 a)).run prog w=.ok (Hl w.1.size a.length c) b/\Below w.1.size w b/\b.1.size=w.1.size+1/\Yx b w.1.size (w.1.size+1) (some ⟨w.1.size,0,none⟩) a:=by
 refine⟨_,_,?_,by have:=run_bytes_of_string (P:=prog) w 9 22 5 (K8 a) underlying9 underlying22 underlying5;rw[i7]at this;exact this,?_,?_,?_⟩;·exact grownCap_ge w _ _ _
 .exact(Xb (Below.refl _ _).drew _)
 .show(w.1.push _).size=_;simp
 intro i d;refine⟨_,0,rfl,⟨aA,iJ⟩,?_⟩;rw[aV,cell_of_row _ w.1.size i _ _ _<|heap_alloc_new w.drew _];unfold bytesRow;rw[Array.getElem?_append_left (by simpa [K8]using d)];simp[K8,d]
theorem oK(sep:UInt8):∀(r a:Wn),(am sep a r).length<=r.length+1
 |[],a=>by simp[am]
 |c::r,a=>by
  rw[am];split;·have:=oK sep r [];simp only[bA];omega
  have:=oK sep r<|a++[c];simp only[bA];omega
theorem kh(sep:UInt8):∀(r a:Wn),∀f∈am sep a r,f.length<=a.length+r.length
 |[],a,f,h=>by simp[am]at h;subst h;simp
 |c::r,a,f,h=>by
  rw[am]at h;split at h
  .rcases cH.1 h with rfl|h;·simp only[bA];omega
   have:=kh sep r [] f h;simp only[bA,bO]at this |-;omega
  have:=kh sep r (a++[c]) f h;simp only[aQ,bA,bO]at this |-;omega
def cB(c:UInt8):Bool:=decide (33<=c.toNat)&&decide (c.toNat<=126)
theorem nK{f:Wn}:Y3 f=(decide (0<f.length)&&f.all cB):=rfl
theorem Lz{a:Wn}(h:n<(C3 a 32).length)(b:Y3 (C3 a 32)[n]=false):Bf a=[]:=by
 unfold Bf;rw[aM];intro ha;have:=dV.1 ha _<|aH h;rw[b]at this;cases this
theorem yG(a:Wn)(hl:a.length<=1000000)(w:Ub):
 Calls prog 26 #[.string (K8 a)] w λl S=>∃R,l=.returned R/\Below w.1.size w S/\S.ownsRow w.1.size 9 1 R (Bf a).length (KC<|Bf a):=by
 let⟨aj,W1,ap,aq,G,Q,P⟩:=Md w a;have A:=Xa G;have E:=Xa P;have j:=Xa Q;clear G P Q
 go_in
 go_wp2_with (go_at_call 25;refine(zB aj 32 W1 E (Xa rfl) hl ap (oN j.o)).mono ?_;rintro l g⟨v2,rfl,H,n⟩)
 obtain⟨F,c2,rfl,N⟩:=UO n;have o:(KC<|C3 a 32).length=(C3 a 32).length:=by simp[KC]
 rw[o];have i:=Xa<|A.trans (H.mono<|oN j.o);have u:=i.4;have ab:=Xa N;have X:Hs (g.ownsRow w.1.size 9 1 (.slice F (C3 a 32).length c2) (C3 a 32).length (KC<|C3 a 32)):=Xa (by rw[o]at n;exact(by
  obtain⟨L,h0|⟨ao,cc,al,hv,hg,a1⟩⟩:=n;·exact⟨L,.inl h0⟩
  exact⟨L,.inr ⟨ao,cc,al,hv,oN j.o,a1⟩⟩))
 have ac:=Xa o;have a4:(C3 a 32).length<=1000001:=by have:=oK 32 a [];unfold C3;omega
 have T:Hs (∀f∈C3 a 32,f.length<=1000000):=Xa (λf t=>by have:=kh 32 a [] f t;simp only[bO]at this;omega);have V:Hs (∀k (h:k<(C3 a 32).length),Y3 (C3 a 32)[k]=false->Bf a=[]):=Xa λk h t=>Lz h t;have ad:Hs ((C3 a 32).all Y3=true->Bf a=C3 a 32):=Xa (λh=>by unfold Bf;rw[aU h]);have s:Hs (∀W,Below w.1.size w W->Bf a=[]->(W.alloc<|.cells #[] 9).ownsRow w.1.size 9 1 (Hl W.1.size 0 0) (Bf a).length (KC<|Bf a)):=Xa (λW hW h=>by
  rw[h];have:=eI (base:=w.1.size) (e:=9) (size:=1) W #[] 0 hW.4 sP rfl;simpa [KC]using this)
 clear N n H o aq A E j;generalize C3 a 32=c at*;go_wp2
 go_loopw [4] (λv wr=>∃k:Nat,k<=c.length/\v=Hp k/\Hs (Below g.1.size g wr)/\Hs ((c.take k).all Y3=true)) λv _=>c.length-(intOf v).toNat
 case atStart=>exact⟨0,aN,rfl,Xa<|Below.refl _ _,Xa rfl⟩
 obtain⟨k,hk,rfl,b,y⟩:=hrel;have O:=b.4;have d:=Xa<|i.trans (b.mono u);by_cases m:k<c.length
 .obtain⟨af,a0,rfl,⟨_,I⟩,J⟩:=ab k (by rw[ac.o];exact m);have B:Hs (g.cell? (Hk af<|a0+k)=some (.string (K8 c[k]))):=Xa (J.trans<|by simp[KC]);have K:=oB b B I;have D:=Xa<|V.o k m;have U:=Xa<|T.o c[k] (aH m);have aa:Hs ((c.take<|k+1).all Y3=((c.take k).all Y3&&Y3 c[k])):=Xa (by rw[bN m,List.all_append];simp);clear J;generalize c[k]=f at*;have a6:=i7 f;by_cases ar:f.length=0
  .have e:=Xa (D.o<|by rw[nK,ar];rfl);go_wp2;go_ret;exact⟨_,rfl,Xb d _,s _ d e⟩
  have az:0<f.length:=oM;have a3:=U.o;go_wp2;generalize wr=wo at*
  go_loopw [5] (λx wi=>∃q:Nat,q<=f.length/\x=Hp q/\Hs (Below g.1.size g wi)/\Hs ((f.take q).all cB=true)) λx _=>f.length-(intOf x).toNat
  case atStart=>exact⟨0,aN,rfl,b,Xa rfl⟩
  clear K b d O;obtain⟨q,hq,rfl,b,z⟩:=hrel;have O:=b.4;have d:=Xa<|i.trans (b.mono u);have K:=oB b B I;by_cases M:q<f.length
  .have a5:q<(K8 f).size:=oM
   have Z:Hs ((f.take<|q+1).all cB=((f.take q).all cB&&cB (K8 f)[q])):=Xa (by rw[bN M,List.all_append];simp[zJ]);have r:Hs (cB (K8 f)[q]=true↔¬(((K8 f)[q]).toNat:Int)<33/\¬(126:Int)<(((K8 f)[q]).toNat:Int)):=Xa (by simp only[cB,bY,bD];omega);have C:Hs (cB (K8 f)[q]=false->Bf a=[]):=Xa (λh=>D (by
    rw[nK,jD];exact aZ (by
     rw[lZ];exact⟨f[q],aH M,by have l:cB f[q]=false:=h;rw[l];simp⟩)))
   by_cases c1:(((K8 f)[q]).toNat:Int)<33
   .have e:=Xa (C.o (by cases h:cB (K8 f)[q]with|false=>rfl|true=>exact absurd c1 (r.1 h).1));go_wp2;go_ret;exact⟨_,rfl,Xb d _,s _ d e⟩
   by_cases c3:(126:Int)<(((K8 f)[q]).toNat:Int)
   .have e:=Xa (C.o (by cases h:cB (K8 f)[q]with|false=>rfl|true=>exact absurd c3 (r.1 h).2));go_wp2;go_ret;exact⟨_,rfl,Xb d _,s _ d e⟩
   have p:Hs ((f.take<|q+1).all cB=true):=Xa (by rw[Z.o,z.o,r.2 ⟨c1,c3⟩];rfl);go_wp2;exact⟨⟨q+1,oM,gM,b,p⟩,by simp[intOf];omega⟩
  have p:Hs ((c.take<|k+1).all Y3=true):=Xa (by
   rw[aa.o,y.o,nK,eB az];have:=z.o;rw[aW oM]at this;rw[this];rfl)
  go_wp2;exact⟨⟨k+1,oM,gM,b,p⟩,by simp[intOf];omega⟩
 have e:=Xa (ad.o (by have:=y.o;rwa[aW oM]at this));have Y:Hs (wr.ownsRow w.1.size 9 1 (.slice F c.length c2) (Bf a).length (KC<|Bf a)):=Xa (by rw[e.o];exact rk X b);have d:=Xa<|i.trans (b.mono u);go_wp2;go_ret;exact⟨_,rfl,d,Y⟩
def ju(w:List UInt8):Nat->Nat->Int
 |0,_=>0
 |n+1,k=>if bz k=w then k else ju w n (k+1)
def D2(w:Wn):Int:=ju w 10 1
theorem T4(f:Wn):(K8 f).toList=f:=by rw[ByteArray.toList_eq];rfl
theorem yJ{w:Wn}:ju w (n+1) m=if bz m=w then (m:Int)else ju w n (m+1):=rfl
theorem yZ(f:Wn)(w:Ub):
 Calls prog 61 #[.string (K8 f)] w λe n=>e=.returned (Hp<|D2 f)/\Below w.1.size w n:=by
 have t:=T4 f
 go_in
 go_wp2
 go_loopw [3] (λi wr=>∃k:Nat,1<=k/\k<=11/\i=Hp k/\Hs (Below w.1.size w wr)/\Hs (D2 f=ju f (11-k) k)) λi _=>11-(intOf i).toNat
 case atStart=>exact⟨1,oM,oM,rfl,Xa<|Below.refl _ _,Xa rfl⟩
 obtain⟨k,o,p,rfl,d,h⟩:=hrel;by_cases s:k<=10
 .have u:=T4<|bz k
  have j:Hs (D2 f=if bz k=f then (k:Int)else ju f (11-(k+1)) (k+1)):=Xa (by
   rw[h.o,show 11-k=(11-(k+1))+1 by omega,yJ])
  have l:=Xa<|Lb (k:Int) ⟨oM,oM⟩ wr;by_cases c:bz k=f
  .have a:Hs (D2 f=(k:Int)):=Xa (by rw[j.o,aU c]);go_wp2_with (go_at_call 127;refine l.mono ?_;rintro e g⟨rfl,b⟩;rw[b];clear b g)
   go_ret;exact⟨f9 a.symm,d⟩
  have a:Hs (D2 f=ju f (11-(k+1)) (k+1)):=Xa (by rw[j.o,aM c]);have q:(bz k==f)=false:=by rw[iS];exact c
  have r:(k:Int)<=10:=oM;go_wp2_with (go_at_call 127;refine l.mono ?_;rintro e g⟨rfl,b⟩;rw[b];clear b g)
  go_wp2;exact⟨⟨k+1,oM,oM,gM,d,a⟩,by simp[intOf];omega⟩
 have m:k=11:=oM;subst m;have a:Hs (D2 f=0):=Xa (by rw[h.o];rfl);go_wp2;go_ret;exact⟨f9 a.symm,d⟩
def jx(f:Wn):Bool:=f==[106,117,109,112]||f==[98,114,97,110,99,104]||f==[114,101,116]
theorem yO{f:Wn}:
 Calls prog 29 #[.string (K8 f)] w λe b=>e=.returned (.bool (jx f))/\Below w.1.size w b:=by
 have c:=T4 f;have a:Hs (jx f=(f==[106,117,109,112]||f==[98,114,97,110,99,104]||f==[114,101,116])):=Xa rfl
 go_in
 go_wp2
 all_goals
  go_ret;refine⟨Xl<|Eq.trans ?_ a.symm,Below.refl _ _⟩
  first|rfl|simp[*]
def eh:Wn:=[98,108,111,99,107]
def fg:Wn:=[106,117,109,112]
def ew:Wn:=[114,101,116]
def Vn:Wn:=[98,114,97,110,99,104]
def fm:Wn:=[112,104,105]
def fw:Wn:=[99,111,110,115,116]
def NJ(w:Wn)(n:Nat):Nat :=
 if D2 w≠0 then 1+(Kz<|D2 w).size else if w=eh then 1 else if w=fg then 2 else if w=ew then 2 else if w=Vn then 4 else if w=fm then (if n<3 then 3 else n)else 0
def jw(a:Vw)(i:Nat)(f:Wn):Bool:=if a.head?=some fw/\i=2 then NM f else decide (0<=Gb f)
def gu(a:Vw)(k:Nat):Bool:=(List.range k).all λi=>match a[i+1]? with|some f=>jw a (i+1) f|none=>true
def C0(a:Vw):Int :=
 if NJ (a.headD []) a.length=0 then 5 else if a.length≠NJ (a.headD []) a.length then 6 else if gu a (a.length-1)=true then 0 else 7
theorem oH(w:Wn):∀(n k:Nat),ju w n k=0\/∃j:Nat,k<=j/\j<k+n/\ju w n k=j/\bz j=w
 |0,k=>bC rfl
 |n+1,k=>by
  rw[yJ];split;·rename_i h;exact aZ ⟨k,aA,oM,rfl,h⟩
  obtain h|⟨j,c,d,a,b⟩:=oH w n (k+1);·exact bC h
  exact aZ ⟨j,oM,oM,a,b⟩
theorem oL{w:Wn}(h:D2 w≠0):(1<=D2 w/\D2 w<=10)/\w≠eh/\w≠fg/\w≠ew/\w≠Vn/\w≠fm:=by
 obtain a|⟨j,d,f,b,rfl⟩:=oH w 10 1;·exact absurd a h
 have e:D2 (bz j)=j:=b;refine⟨by rw[e];omega,?_⟩;have c:j=1\/j=2\/j=3\/j=4\/j=5\/j=6\/j=7\/j=8\/j=9\/j=10:=oM;obtain rfl|rfl|rfl|rfl|rfl|rfl|rfl|rfl|rfl|rfl:=c<;>decide
theorem LW{a:Vw}(b:1<=n)(h:n<a.length):gu a n=(gu a (n-1)&&jw a n a[n]):=by
 obtain⟨j,rfl⟩:∃j,n=j+1:=⟨n-1,oM⟩;unfold gu;rw[dN,List.all_append,Nat.add_sub_cancel];simp[aC h]
theorem MK{a:Vw}(c:1<=n)(h:n<a.length)(b:jw a n a[n]=false):gu a (a.length-1)=false:=by
 unfold gu;rw[lZ];refine⟨n-1,by rw[bE];omega,?_⟩;rw[show n-1+1=n by omega,aC h];simp[b]
theorem Ml(F:Wn):∃t:Nat,t<7/\(D2 F != 0)=(t==0)/\(F==[98,108,111,99,107])=(t==1)/\(F==[106,117,109,112])=(t==2)/\(F==[114,101,116])=(t==3)/\(F==[98,114,97,110,99,104])=(t==4)/\(F==[112,104,105])=(t==5) /\
 ∀n,NJ F n=if t=0 then 1+(Kz<|D2 F).size else if t=1 then 1 else if t=2 then 2 else if t=3 then 2 else if t=4 then 4 else if t=5 then (if n<3 then 3 else n)else 0:=by
 by_cases a:D2 F=0
 .by_cases b:F=eh;·subst b;exact⟨1,vY,rfl,rfl,rfl,rfl,rfl,rfl,λn=>rfl⟩
  by_cases c:F=fg;·subst c;exact⟨2,vY,rfl,rfl,rfl,rfl,rfl,rfl,λn=>rfl⟩
  by_cases d:F=ew;·subst d;exact⟨3,vY,rfl,rfl,rfl,rfl,rfl,rfl,λn=>rfl⟩
  by_cases e:F=Vn;·subst e;exact⟨4,vY,rfl,rfl,rfl,rfl,rfl,rfl,λn=>rfl⟩
  by_cases f:F=fm;·subst f;exact⟨5,vY,rfl,rfl,rfl,rfl,rfl,rfl,λn=>rfl⟩
  exact⟨6,vY,by rw[a];rfl,iS.2 b,iS.2 c,iS.2 d,iS.2 e,iS.2 f,λn=>by unfold NJ;rw[aM λh=>h a,aM b,aM c,aM d,aM e,aM f];rfl⟩
 let⟨_,b,c,d,e,f⟩:=oL a;exact⟨0,vY,jJ.2 a,iS.2 b,iS.2 c,iS.2 d,iS.2 e,iS.2 f,λn=>aU a⟩
theorem IQ{a:Vw}(c:Nat)(ha:Hs (Zx w n m p<|KC a))(A:0<a.length)(hn:a.length<=1000001)(hB:m<=w.1.size)(al:Hs (∀aj∈a,aj.length<=1000000)):
 Calls prog 28 #[.slice p a.length c] w λe w'=>e=.returned (Hp<|C0 a)/\Below w.1.size w w':=by
 have N:Hs (∀i,i<a.length->i<(KC a).length):=Xa (λi h=>by simpa [KC]using h);obtain⟨O,U,rfl,⟨a0,ar⟩,C⟩:=ha 0<|N 0 A;have C:Cl w O U (.string (K8 a[0])):=C.trans (by simp[KC]);have s:Hs (a.headD []=a[0]/\a.head?=some a[0]):=Xa (by cases a with|nil=>simp at A|cons a6 a5=>exact⟨rfl,rfl⟩);generalize a[0]=F at*;have L:=λw=>Xa<|yZ F w;have a2:=T4 F;let⟨t,ht,P,e1,e2,e3,e4,e5,b⟩:=Ml F;have a3:=q7<|D2 F;have M:=λw=>Xa<|qX (D2 F) w;have g:Hs (C0 a=if NJ F a.length=0 then 5 else if a.length≠NJ F a.length then 6 else if gu a (a.length-1)=true then 0 else 7):=Xa (by unfold C0;rw[s.1]);have b:=b a.length;generalize NJ F a.length=W at*;generalize D2 F=op at*;generalize Kz op=af at*;have a4:(1+(af.size:Int)==0)=false:=by rw[iS];omega
 have Q:t=0\/t=1\/t=2\/t=3\/t=4\/t=5/\a.length<3\/t=5/\3<=a.length\/t=6:=oM;by_cases d:a.length=W
 .have X:Hs (gu a (a.length-1)=false->C0 a=7):=Xa (λh=>by rw[g.o,aM oM,aM λD=>D d,h];rfl);have V:Hs (gu a (a.length-1)=true->C0 a=0):=Xa (λh=>by rw[g.o,aM oM,aM λD=>D d,h];rfl);have y:((a.length:Int) != (W:Int))=false:=by rw[bne_eq_false_iff_eq];omega
  have h6:((W:Int)==0)=false:=by rw[iS];omega
  have aa:=Xa d;have I:Hs ((F==[99,111,110,115,116])=true/\a.head?=some fw\/(F==[99,111,110,115,116])=false/\¬a.head?=some fw):=Xa (by
   rw[s.2];by_cases x:F=fw;·exact bC ⟨iA.2 x,by rw[x]⟩
   exact aZ ⟨iS.2 x,λh=>x<|gQ h⟩)
  clear d g;obtain rfl|rfl|rfl|rfl|rfl|⟨rfl,o⟩|⟨rfl,o⟩|rfl:=Q
  all_goals
   simp only[Nat.reduceBEq,Nat.reduceEqDiff,reduceIte]at P e1 e2 e3 e4 e5 b
   (try rw[aU o]at b)
   (try rw[aM oM]at b)
  all_goals (try (exfalso;have:=aa.o;omega))
  all_goals
   subst b
   (try simp only[kB,Int.cast_ofNat_Int]at y h6)
   (try have aq:¬(a.length:Int)<3:=oM)
   obtain⟨fc,hcn⟩|⟨fc,hcn⟩:=I.o
  all_goals
   have Z:=Xa hcn;clear s hcn I ht
   go_in
   go_wp2_with (first|(go_at_call 61;refine(L _).mono ?_;rintro e w1⟨rfl,v⟩)|(go_at_call 62;refine(M _).mono ?_;rintro e q⟨rfl,l⟩;rw[l];clear l q))
   have Y:=Xa v;clear v C y;go_wp2
   go_loopw [6] (λi wr=>∃k:Nat,1<=k/\k<=a.length/\i=Hp k/\Hs (Below w.1.size w wr)/\Hs (gu a (k-1)=true)) λi _=>a.length-(intOf i).toNat
   case atStart=>exact⟨1,aA,A,rfl,Y,Xa rfl⟩
   obtain⟨k,S,hk,rfl,r,G⟩:=hrel;have ap:=r.4;by_cases z:k<a.length
   .let⟨b',o',e',⟨_,az⟩,R⟩:=ha k<|N k z;cases e';have a1:Cl wr O (U+k) (.string (K8 a[k])):=((XU r oM).trans R).trans (by simp[KC]);have ad:=Xa<|LW S z;have ab:=Xa<|MK S z;have J:=Xa<|al.o a[k] (aH z);have f:jw a k a[k]=if a.head?=some fw/\k=2 then NM a[k]else decide (0<=Gb a[k]):=rfl
    have T:((k:Int)==2)=decide (k=2):=by by_cases h:k=2;simp[h];rw[dJ h,iS];omega
    clear R;generalize a[k]=j at*;cases hok:jw a k j
    all_goals
     rw[hok]at f;have K:=Xa hok;clear hok;by_cases u:k=2
    all_goals
     (first|rw[eB u]at T|rw[dJ u]at T)
     simp only[Z.o,u,and_self,and_true,and_false,gG,fD]at f
     (try have ao:Gb j<0:=by have:=of_decide_eq_false f.symm;omega)
     (try have ao:¬Gb j<0:=by have:=fV f.symm;omega)
     have ac:=Xa f;clear u f;go_wp2_with (first|(go_at_call 27;refine(j9 j _).mono ?_;rintro e q⟨rfl,B⟩)|(go_at_call 63;refine(IG j J J _).mono ?_;rintro e q⟨rfl,B⟩;rw[<-ac.o]))
     have H:=Xa<|r.trans (B.mono ap);clear B
     first
      |(go_ret;exact⟨f9 (X<|ab K).symm,H⟩)
      |(go_wp2;exact⟨⟨k+1,oM,oM,gM,H,Xa<|by rw[Nat.add_sub_cancel,ad.o,G.o,K.o];rfl⟩,by simp[intOf];omega⟩)
   have HV:=Xa (V.o (by have:=G.o;rwa[show k-1=a.length-1 by omega]at this));go_wp2;go_ret;exact⟨f9 HV.symm,r⟩
 have E:Hs (C0 a=if W=0 then 5 else 6):=Xa (by rw[g.o,aU d]);have y:((a.length:Int) != (W:Int))=true:=by rw[jJ];omega
 clear g s;obtain rfl|rfl|rfl|rfl|rfl|⟨rfl,o⟩|⟨rfl,o⟩|rfl:=Q
 all_goals
  simp only[Nat.reduceBEq,Nat.reduceEqDiff,reduceIte]at P e1 e2 e3 e4 e5 b
  (try rw[aU o]at b)
  (try rw[aM oM]at b)
 all_goals (try (exfalso;omega))
 all_goals
  clear d;subst b
  (try simp only[kB,Int.cast_ofNat_Int]at y)
  (try have aq:¬(a.length:Int)<3:=oM)
  (try rw[aM oM]at E)
  go_in
  go_wp2_with (first|(go_at_call 61;refine(L _).mono ?_;rintro e w1⟨rfl,v⟩)|(go_at_call 62;refine(M _).mono ?_;rintro e q⟨rfl,l⟩;rw[l];clear l q))
  go_ret;exact⟨f9 E.symm,v⟩
theorem zO{P:Wc}{b:Nat}(g:Yr):(WC P (c+1) b).flatMap g=(WC P c b).flatMap g++(if P.getD c 0=(b:Int)then g c else []):=by
 unfold WC;rw[dN,eU,iW,jX,eZ];by_cases e:P.getD c 0=(b:Int);·rw[aU (by rw[iA];exact e),aU e];simp
 rw[aM (by rw[iA];exact e),aM e];simp
theorem zR{P:Wc}{b:Nat}(g:Yr):∀(m c:Nat),c+m=P.length->∃r,(Nj P b).flatMap g=(WC P c b).flatMap g++r
 |0,c,h=>⟨[],by rw[show c=P.length by omega,vM];simp⟩
 |m+1,c,h=>by
  obtain⟨r,a⟩:=zR (P:=P) (b:=b) g m (c+1) oM;exact⟨_,by rw[a,zO,cK]⟩
theorem zV(w:Ub)(b:Nat):(w.alloc<|.cells #[.int .i64 (b:Int)] 2).ownsRow w.1.size 2 1 (.slice (some ⟨w.1.size,0,none⟩) 1 1) [b].length (Je [b]):=by
 have:=eI (base:=w.1.size) (e:=2) (size:=1) w #[Hp b] 1 sP vY rfl;simpa [Je]using this
theorem Me(R:Uy)(ic:Nat)(aj B:Nat)(z:Hs (n=l.length))(hn:n<=1000)(G:Vv)(hG:Hs (∀b c,G b->c∈Nj l b->G c))(hL:Hs (∀m b,G b->(XT l m b).length<=1000)):
 ∀(m b:Nat)(w:Ub),Hs (Xf w aj B R l)->B<=w.1.size->Hs (G b)->m<=1000 ->
 Calls prog 75 #[.slice R n ic,Hp b,Hp m] w λe V=>∃U,e=.returned U/\Below w.1.size w V/\V.ownsRow w.1.size 2 1 U (XT l m b).length (Je<|XT l m b):=by
 let⟨i0,aq,az,a0,a1⟩:=Xq RH;intro m
 induction m with
 |zero=>
  intro b w q N p hm;have ba:((0:Nat):Int)=0:=rfl
  go_in
  go_wp2;go_ret;exact⟨_,rfl,Xb (Below.refl _ _) _,zV w b⟩
 |succ m S=>
  intro b w q N p hm;have IH:=Xa S;clear S;have L:Hs (Below w.1.size w<|w.alloc (.cells #[Hp b] 2)):=Xa<|Xb (Below.refl _ _) _;have H:=Xa<|zV w b;have K:Hs (XT l (m+1) b=b::(Nj l b).flatMap (XT l m)):=Xa rfl;have ab:Hs ((b::(Nj l b).flatMap (XT l m)).length<=1000):=Xa (K.o▸hL _ _ p);rw[K.o];let⟨D,O⟩:∃D:Int,D=((m+1:Nat):Int):=⟨_,rfl⟩;rw[<-O];have bc:D-1=(m:Int):=oM;have a6:(D==0)=false:=by simp;omega
  clear O
  go_in
  go_wp2
  go_loopw [7,8] (λvo u wr=>∃(c:Nat)(i:Uy)(a j:Nat),c<=n/\u=Hp c/\vo=.slice i a j/\Hs (a=(b::(WC l c b).flatMap (XT l m)).length)/\Hs (Below w.1.size w wr)/\Hs (wr.ownsRow w.1.size 2 1 (.slice i a j) a (Je (b::(WC l c b).flatMap (XT l m))))) λ_ u _=>n-(intOf u).toNat
  case atStart=>exact⟨0,_,_,_,aN,rfl,rfl,Xa (by simp[WC]),L,Xa<|by simpa [WC]using H.o⟩
  obtain⟨c,i,a,j,hc,rfl,rfl,g,f,h⟩:=hrel;clear L H;by_cases a9:c<n
  .have r:c<l.length:=oN z.o;obtain⟨b5,o5,rfl,a5,e5⟩:=q c r;have a2:=(XU f oM).trans e5;have s:l.getD c 0=l[c]:=by simp[r]
   have d:=Xa<|zO (P:=l) (c:=c) (b:=b) (XT l m);rw[s]at d;let⟨bf,Q⟩:=zR (P:=l) (b:=b) (XT l m) (n-(c+1)) (c+1) (oN z.o);have aa:Hs (l[c]=(b:Int)->c∈Nj l b):=Xa λe=>o8.2 ⟨r,s▸e⟩;have E:Hs ((b::(WC l (c+1) b).flatMap (XT l m)).length<=1000):=Xa (by
    have:=ab.o;rw[Q]at this;simp only[bA,aQ]at this |-;omega)
   clear e5 s Q;generalize l[c]=T at*;by_cases x:T=(b:Int)
   .subst x;rw[aU rfl]at d;rw[d.o]at E;have q1:((b:Int)==(b:Int))=true:=sP;have C:=Xa<|IH.o c wr (Xa<|q.keep (f.mono N)) (oN f.4) (Xa<|hG.o b c p (aa rfl)) oM;have ar:0<(XT l m c).length:=by cases m<;>simp[XT]
    have F:Hs (a+(XT l m c).length=(b::((WC l c b).flatMap (XT l m)++XT l m c)).length):=Xa (by rw[g.o];simp;omega);have bb:a+(XT l m c).length<=1000:=F.o▸E;have W:Hs (Je (b::(WC l c b).flatMap (XT l m))++Je (XT l m c)=Je (b::(WC l (c+1) b).flatMap (XT l m))):=Xa (by rw[d.o];simp[Je]);have ac:Hs (a+(XT l m c).length=(b::(WC l (c+1) b).flatMap (XT l m)).length):=Xa (by rw[F.o,d.o]);go_wp2_with fail
    refine C.mono ?_;rintro e w5⟨v5,rfl,k,t⟩;obtain⟨M,c5,rfl,a7,_⟩:=Xm t ar;have I:=Xa (n9 h aA λo e=>k.5 o (h.lt o e).2);have X:=Xa<|Xg f k;have Z:Hs (∀A u,(Je<|XT l m c)[A]?=some u->w5.cell? (((Hk M 0):Addr).add A)=some u):=Xa (λA u y=>by rw[mK,aV];exact Jj t y);have be:=f.4;have ad:Hs ((Je<|XT l m c).length=(XT l m c).length*1):=Xa (by simp[Je]);clear k t C;generalize (XT l m c).length=lp at*;go_wp2_with (at_builtin;refine bT _ rfl _ _ 41 rfl w.1.size 2 i0 (Hp 0) 1 8 underlying41 aq az a0 a1 rfl vY _ _ _ rfl I (Hk M 0) lp c5 (Je<|XT l m c) rfl ad ?c1 ?c2 ?c3 ?c4 ?c5 ?_)
    case c1=>exact Z
    case c2=>intro u y;obtain⟨bh,_,rfl⟩:=aY.1 y;rfl
    case c3=>unfold maxLen;omega
    case c4=>omega
    case c5=>omega
    intro v8 w8 v P _ al;obtain⟨g8,c8,rfl,a8,_⟩:=Xm v oM;have Y:=Xa (X.grown P oM λo e=>(I.lt o e).1);have J:=Xa v;rw[W.o]at J;clear v P al;go_wp2;exact⟨⟨c+1,_,_,_,oM,gM,rfl,ac,Y,J⟩,by simp[intOf];omega⟩
   rw[aM x,fF]at d;go_wp2;exact⟨⟨c+1,i,a,j,oM,gM,rfl,Xa (d.o▸g),f,Xa (d.o▸h)⟩,by simp[intOf];omega⟩
  have ap:c=n:=oM;have af:Hs (WC l c b=Nj l b):=Xa (by rw[ap,z.o];rfl);rw[af.o]at h g;go_wp2;go_ret;refine⟨_,rfl,f,?_⟩;have:=h.o;rw[g.o]at this |-;exact this
end Go.Proofs.YtcfdhbigppockaaGreatDoor
