import Derived.Test.YtcncjgijikoapaaGreatDoorMV1
import Derived.Test.YtcncjgijikoapaaGreatDoorLB0
import Derived.Test.YtcncjgijikoapaaGreatDoorOC1
import Derived.ProofKit
import Derived.Lib.SmallJoins
namespace Go.Proofs.YtcncjgijikoapaaGreatDoor
set_option maxHeartbeats 4000000
set_option maxRecDepth 1000000
open _root_ renaming Array.size->Z,List.length->J,Nat->N,Int->I,rfl->R,Option.some->S,Bool.true->So,Bool.false->Sn,Option.none->U,absurd->Sz,List.range->Rg,Decidable.decide->Jd
open Go renaming World.cell?->E,World.alloc->D,Obj.cells->Sc,Ending.returned->Rt,RowKit.Below->Sw,Calls->Sk,RowKit.intOf->JB,IntKind.i64->S6,World.setCell->Se,World.ownsRow->Sx
open Value renaming slice->X,agg->Sa,int->Si,bool->Sb
open Go.RowKit Go.Proofs.Tryz Go.Shelf
variable{r:Bool}{n m k B g i:N}{w v:Ub}{a A_:Uj}{h:Vu}{l:Wc}{x:Wi}{f F:Wk}{q:Xe}
theorem uv(v)(f:Q (VO w (λ_=>True) h q l))(bd:Q (J q.2<=4000))(hE:Q (J l<=8000000))(C K:Uj){u4 u5:Uj}(Y_:h 2=a)(Z_:h 3=A_)(h4:h 4=u4)(h5:h 5=u5):
 Sk prog 91 #[Sa #[C,K,a,A_,u4,u5],H v] w λC_ w'=>C_=Rt (H (NA q l v:N))/\Sw (Z w.1) w w':=by
 let⟨x,c2,e2,i2⟩:=f.e2;let⟨y,c3,e3,i3⟩:=f.e3;let⟨z,c4,e4,i4⟩:=f.e4;let⟨j,c5,e5,i5⟩:=f.e5;rw[e2]at Y_;rw[e3]at Z_;rw[e4]at h4;rw[e5]at h5;subst Y_ Z_ h4 h5;have H2:=Y i2;have H3:=Y i3;have H4:=Y i4;have H5:=Y i5;have u:Q (J (Jv q)=J q.is):=Y (by unfold Jv;simp);have aq:Q (J (Z2 q)=J q.is):=Y (by unfold Z2;simp);let⟨b,o⟩:∃m,m=J (Jv q):=⟨_,R⟩;let⟨n4,M⟩:∃m,m=J (Z2 q):=⟨_,R⟩;let⟨s,F⟩:∃m,m=J (Id q.te):=⟨_,R⟩;let⟨r,P⟩:∃m,m=J l:=⟨_,R⟩;rw[<-o,<-M,<-F,<-P];have a6:b=n4:=by rw[o,M,u.o,aq.o]
 subst a6;have be:b<=4000:=by rw[o,u.o];exact bd
 have bh:s<=1:=by rw[F];unfold Id;split<;>simp
 have bf:r<=8000000:=by rw[P];exact hE
 have L:=Y o;have a0:=Y M;have a1:=Y F;have az:=Y P;clear o M F P e2 e3 e4 e5 i2 i3 i4 i5;have ad:Q (NA q l v=Ya v (Cg (Id q.te) v||Cg l v) q.is):=Y R;generalize NA q l v=c at*;have n:Sw (Z w.heap) w (D w<|Sc #[C,K,X x r c2,X y b c3,X z b c4,X j s c5] 194):=Xb Rf _;have hc:∀V S_,#[C,K,X x r c2,X y b c3,X z b c4,X j s c5][V]?=S S_->E (D w<|Sc #[C,K,X x r c2,X y b c3,X z b c4,X j s c5] 194) (A (Z w.heap) V)=S S_:=λV S_ f=>by rw[eC];exact f
 go_in
 go_wp2_with fail
 have d:=Y n;have i:=Y hc;generalize D w _=W at*;have k2:Cl W (Z w.heap) 2 (X x r c2):=i 2 _ R;have k3:Cl W (Z w.heap) 3 (X y b c3):=i 3 _ R;have k4:Cl W (Z w.heap) 4 (X z b c4):=i 4 _ R;have k5:Cl W (Z w.heap) 5 (X j s c5):=i 5 _ R;have bl:=n.size;have ab:=Y<|H2.at_.keep n;have ac:=Y<|H5.at_.keep n;have aj:=Y<|qu c2 v ab az O;have ao:=Y<|YF j c5 v (Id q.te) 0 (Z w.heap) W ac a1 O;clear n hc i
 go_loop [5] (λQ_=>∃k:N,k<=b/\Q_=H k/\Q (c=Ya v (Cg (Id q.te) v||Cg l v) (q.is.drop k))) λQ_=>b-(JB Q_).toNat
 .exact⟨0,aN,R,Y<|by rw[ad.o];rfl⟩
 obtain⟨k,hk,rfl,K_⟩:=hrel;by_cases P_:k<b
 .have bc:k<J q.is:=by rw[<-u.o,<-L.o];exact P_
  have ba:k<J (Jv q):=by rw[<-L.o];exact P_
  have bb:k<J (Z2 q):=by rw[<-a0.o];exact P_
  obtain⟨b3,o3,rfl,⟨_,a7⟩,ar,cr,N_,O_⟩:=H3 k ba;obtain⟨b4,o4,rfl,⟨_,a8⟩,M_⟩:=H4 k bb;have X_:(Jv q)[k]=Iw q.is[k]:=by simp[Jv]
  have V_:(Z2 q)[k]=H7 q.is[k]:=by simp[Z2]
  rw[X_]at N_ O_;rw[V_]at M_;have l3:=oB d N_ a7;have l4:=oB d M_ a8;have U_:Q (Ya v (Cg (Id q.te) v||Cg l v) (q.is.drop k)=if Cg (Iw q.is[k]) v then 1 else if H7 q.is[k]=v then 2 else Ya v (Cg (Id q.te) v||Cg l v) (q.is.drop<|k+1)):=Y (by rw[gZ bc];rfl);have ap:=Y<|O_.at_.keep d;let⟨nr,T⟩:∃m,m=J (Iw q.is[k]):=⟨_,R⟩;rw[<-T]at l3;have bi:nr<=2:=by rw[T];exact oU _
  have al:=Y<|YF ar cr v (Iw q.is[k]) 0 (Z w.heap) W ap (Y T) O;clear N_ M_ O_ X_ V_ T;generalize Iw q.is[k]=ri at*;generalize H7 q.is[k]=B at*;go_wp2_with fail
  refine YU al λw3 p=>?_;rw[p];clear p;cases hh:Cg ri v with
  |true=>
   have e:Q (c=1):=Y (by rw[K_.o,U_.o,hh];rfl);clear hh;go_wp2;go_ret;exact⟨by rw[e.o];rfl,d⟩
  |false=>
   have T_:Q (c=if B=v then 2 else Ya v (Cg (Id q.te) v||Cg l v) (q.is.drop<|k+1)):=Y (by rw[K_.o,U_.o,hh];rfl);clear hh;by_cases g:B=v
   .have e:Q (c=2):=Y (by rw[T_.o,aU g]);have a9:(B==v)=So:=by simp[g]
    clear g;go_wp2;go_ret;exact⟨by rw[e.o];rfl,d⟩
   have af:Q (c=Ya v (Cg (Id q.te) v||Cg l v) (q.is.drop<|k+1)):=Y (by rw[T_.o,aM g]);have a9:(B==v)=Sn:=by simp[g]
   clear g;go_wp2_with fail
   go_round
   .exact⟨k+1,O,gM,af⟩
   simp[JB];omega
 have e:Q (c=if (Cg (Id q.te) v||Cg l v)then 1 else 0):=Y (by rw[K_.o,mP<|by rw[<-u.o,<-L.o];omega];rfl);go_wp2_with fail
 refine YU ao λw3 p=>?_;rw[p];clear p;cases ht:Cg (Id q.te) v with
 |true=>
  have t:Q (c=1):=Y (by rw[e.o,ht];rfl);clear ht;go_wp2;go_ret;exact⟨by rw[t.o];rfl,d⟩
 |false=>
  have t:Q (c=if Cg l v then 1 else 0):=Y (by rw[e.o,ht];rfl);clear ht;go_wp2_with fail
  refine YU aj λw4 aa=>?_;rw[aa];clear aa;cases ht:Cg l v with
  |true=>
   have J_:Q (c=1):=Y (by rw[t.o,ht];rfl);clear ht;go_wp2;go_ret;exact⟨by rw[J_.o];rfl,d⟩
  |false=>
   have J_:Q (c=0):=Y (by rw[t.o,ht];rfl);clear ht;go_wp2;go_ret;exact⟨by rw[J_.o];rfl,d⟩
def Of(a:List Xe)(b:N):List I:=match a[b]? with
 |none=>[]
 |some x=>x.1.map Ph.dst
def PA(a:List Xe)(b:N):List I:=match a[b]? with
 |none=>[]
 |some x=>Id x.3
def Tu(a:List Xe)(b:N):List I:=match a[b]? with
 |none=>[]
 |some x=>Z2 x
def OW(a:List Xe)(b:N):List (List I):=match a[b]? with
 |none=>[]
 |some x=>Jv x
theorem qH(a:Wi)(b v):Yo a b v=Cg (Of a b) (v:I):=by unfold Yo Of;cases a[b]?<;>rfl
structure QN(W:Ub)(base:N)(xs:Wi)(b:N)(a0:Uy)(n0:N)(a1:Uy)(n1:N)(a2:Uy)(n2:N)(a3:Uy)(n3:N)(a4:Uy)(n4:N)(a5:Uy)(n5:N)(c0 c1 c2 c3 c4 c5:N):Prop where
 t:n0=J (X8 xs b)/\Xf W 0 base a0 (Xi<|X8 xs b)
 p:n1=J (Of xs b)/\Xf W 0 base a1 (Of xs b)
 e:n2=J (XP xs b)/\Xf W 0 base a2 (XP xs b)
 r:n3=J (OW xs b)/\TA W (λq=>q<base) a3 (OW xs b)
 d:n4=J (Tu xs b)/\Xf W 0 base a4 (Tu xs b)
 u:n5=J (PA xs b)/\Xf W 0 base a5 (PA xs b)
 bare:∀v:N,Sk prog 91 #[Sa #[X a0 n0 c0,X a1 n1 c1,X a2 n2 c2,X a3 n3 c3,X a4 n4 c4,X a5 n5 c5],Si S6 (v:I)] W λe w'=>e=Rt (Si S6 (C7 xs b v:N))/\Sw (Z W.1) W w'
theorem YQ.row(t:Jy n x){of}(W_:YQ w (S ⟨m,of,U⟩) x)(a:Sw (Z w.1) w v)(b:k<J x):
 ∃f y g z h F i K j B l C c0 c1 c2 c3 c4 c5,m<Z w.1/\E v (A m<|of+k*6)=S (X f y c0)/\E v (A m<|of+k*6+1)=S (X g z c1)/\E v (A m<|of+k*6+2)=S (X h F c2)/\E v (A m<|of+k*6+3)=S (X i K c3)/\E v (A m<|of+k*6+4)=S (X j B c4)/\E v (A m<|of+k*6+5)=S (X l C c5)/\y<=2/\z<=4000/\F<=8000000/\B<=4000/\C<=1/\QN v (Z w.1) x k f y g z h F i K j B l C c0 c1 c2 c3 c4 c5:=by
 let⟨al,ao,us,o,T,ad,c⟩:=W_ k b;injection o with o;injection o with e1 e2;subst e1 e2;have d:=λu r=>oB a (ad u r) T;have ac:=c.keep (λaj hq _=>a.block aj hq) a.size;let⟨f,c0,V_,i0⟩:=c.e0;let⟨g,c1,e1,i1⟩:=c.e1;let⟨h,c2,e2,i2⟩:=c.e2;let⟨i,c3,e3,i3⟩:=c.e3;let⟨j,c4,e4,i4⟩:=c.e4;let⟨l,c5,e5,i5⟩:=c.e5;have L:=d 0 vY;have M:=d 1 vY;have V:=d 2 vY;have W:=d 3 vY;have P:=d 4 vY;have Q_:=d 5 vY;rw[V_]at L;rw[e1]at M;rw[e2]at V;rw[e3]at W;rw[e4]at P;rw[e5]at Q_;have s:=t.lens x[k] (aH b);have J_:x[k].te.tg=Xi (X8 x k):=by rw[WM t.okf b,VS b]
 have F_:J (XP x k)<=8000000:=by unfold XP;rw[aC b];have h1:=V8 t ((k:N):I) x[k].te.tg;have h2:=KJ x[k].te;simp only;omega
 have Y_:J (Id x[k].te)<=1:=by unfold Id;split<;>simp
 have G_:Of x k=x[k].ps.map Ph.dst:=by unfold Of;rw[aC b]
 have I_:PA x k=Id x[k].te:=by unfold PA;rw[aC b]
 have E_:Tu x k=Z2 x[k]:=by unfold Tu;rw[aC b]
 have H_:OW x k=Jv x[k]:=by unfold OW;rw[aC b]
 have Z_:∀e:N,C7 x k e=NA x[k] (XP x k) (e:I):=λe=>by unfold C7;rw[aC b]
 refine⟨f,_,g,_,h,_,i,_,j,_,l,_,c0,c1,c2,c3,c4,c5,T,L,M,V,W,P,Q_,KJ _,by rw[bK];exact s.2,F_,by unfold Z2;rw[bK];exact s.1,Y_,⟨⟨by rw[J_];simp[Xi],?_⟩,⟨by rw[G_],?_⟩,⟨R,i2.at_.keep a⟩,⟨by rw[H_],?_⟩,⟨by rw[E_],?_⟩,⟨by rw[I_],?_⟩,λe=>?_⟩⟩;·rw[<-J_];exact i0.at_.keep a
 .rw[G_];exact i1.at_.keep a
 .rw[H_]
  intro af hi;let⟨S_,o',U_,p,R_,T_,aa,X_⟩:=i3 af hi;exact⟨S_,o',U_,⟨p.2,aX p.2 a.size⟩,R_,T_,oB a aa p.2,λu r=>by let⟨b2,o2,e2,q,ab⟩:=X_ u r;exact⟨b2,o2,e2,⟨q.2,aX q.2 a.size⟩,oB a ab q.2⟩⟩
 .rw[E_];exact i4.at_.keep a
 .rw[I_];exact i5.at_.keep a
 rw[Z_];exact uv (e:I) (Y ac) (Y s.1) (Y F_) _ _ e2 e3 e4 e5
def Un(a:Ys)(n:N):N:=(Rg n).countP a
theorem vq(a n):Un a n<=n:=aJ mW sP
theorem tO{a}:Un a (n+1)=Un a n+(if a n then 1 else 0):=by unfold Un;rw[dN,lN];simp[List.countP_cons]
theorem tp{a lv'}(h:∀b,b<n->a b=lv' b):Un a n=Un lv' n:=by unfold Un;exact kK λx c=>by rw[h x<|bE.1 c]
theorem t7{a b}(c:a b=Sn):∀n,b<n->Un (λz=>if z=b then So else a z) n=Un a n+1
 |0,h=>Sz h O
 |n+1,h=>by
  rw[tO,tO];by_cases e:b=n
  .subst e;rw[tp (lv':=a) λz d=>by simp[show z≠b by omega]];simp[c]
  rw[t7 c n O];have:n≠b:=O;simp only[this,fD];omega
theorem DA{a}(b:n<m)(h:a n=So):0<Un a m:=by unfold Un;exact nC.2 ⟨n,bE.2 b,h⟩
structure Oj(xs:Wi)(v n:N)(lv0 lv:Ys)(b:N)(gr:Bool):Prop where
 snd:∀z,z<n->lv z=So->Wh xs v z
 here:∀z,z<n->C7 xs z v=1->lv z=So
 no:gr=Sn->(∀z,z<n->lv z=lv0 z)/\∀z,z<b->C7 xs z v=0->∀t∈X8 xs z,lv t=So->Yo xs t v=Sn->lv z=So
 yes:gr=So->Un lv0 n<Un lv n/\0<Un lv0 n
theorem Oj.start{a}(b:∀z,z<m->a z=So->Wh x n z)(c:∀z,z<m->C7 x z n=1->a z=So):Oj x n m a a 0 Sn :=
 ⟨b,c,λ_=>⟨λ_ _=>R,λz d=>Sz d O⟩,λh=>by cases h⟩
theorem Oj.set{g b}(h:Oj x n m g b k r)(q:m=J x)(l:k<m)(p:B∈X8 x k)(f:B<m)(i:C7 x k n=0)(o:b k=Sn)(d:b B=So)(j:Yo x B n=Sn):Oj x n m g (λz=>if z=k then So else b z) k So:=by
 refine⟨λz c a=>?_,λz c a=>?_,λe=>(by cases e),λ_=>?_⟩
 .by_cases e:z=k
  .subst e;exact Wh.step O i p j<|h.1 B f d
  simp only[e,fD]at a;exact h.1 z c a
 .by_cases e:z=k;·simp[e]
  simp only[e,fD];exact h.2 z c a
 rw[t7 o m l];cases hg:r with
 |false=>
  have e:=tp (h.3 hg).1;rw[e];refine⟨O,?_⟩;rw[<-e];exact DA f d
 |true=>
  have:=h.4 hg;omega
theorem Oj.next{b a}(h:Oj x n m b a k r)(c:r=Sn->C7 x k n=0->∀t∈X8 x k,a t=So->Yo x t n=Sn->a k=So):Oj x n m b a (k+1) r :=
 ⟨h.1,h.2,λe=>⟨(h.3 e).1,λz d=>by
  by_cases e2:z=k;·subst e2;exact c e
  exact(h.3 e).2 z O⟩,h.4⟩
theorem Oj.done{e a}(h:Oj x n m e a m Sn)(d:m=J x):∀b,b<m->(a b=So↔Wh x n b):=by subst d;exact λb c=>CO h.1 h.2 (h.3 R).2 c
section
structure OF(w wr:Ub)(n:N)(lv op:Ys):Prop where
 low:Sw (Z w.1) w wr
 r1:wr.rowIs (Z w.1) 4 n λb=>Sb (lv b)
 r2:wr.rowIs (Z w.1+1) 4 n λb=>Sb (op b)
 sz:Z w.1+2<=Z wr.1
section
variable {w wr wr': Ub} {n: N} {lv op: N -> Bool}
theorem OF.below(h:OF w wr n lv op)(k:Sw (Z wr.1) wr wr'):OF w wr' n lv op :=
 ⟨Xg h.1 k,h.2.of_block<|k.5 _ h.2.lt,h.3.of_block<|k.5 _ h.3.lt,aJ h.4 k.4⟩
theorem OF.congr{a b}(h:OF w wr n lv op)(e1:∀z,z<n->lv z=a z)(e2:∀z,z<n->op z=b z):OF w wr n a b:=⟨h.1,UC (C:=Sb) h.2 e1,UC (C:=Sb) h.3 e2,h.4⟩
theorem OF.set1(h:OF w wr n lv op)(b q):OF w (Se wr ⟨Z w.1,b,U⟩ (Sb q)) n (λz=>if z=b then q else lv z) op :=
 ⟨h.1.setCell aA _,TS (C:=Sb) h.2 b q,h.3.setOther (by show Z w.1+1≠Z w.1;omega) _,by rw[Xd];exact h.4⟩
theorem OF.set2(h:OF w wr n lv op)(b q):OF w (Se wr ⟨Z w.1+1,b,U⟩ (Sb q)) n lv (λz=>if z=b then q else op z) :=
 ⟨h.1.setCell (by show Z w.1<=Z w.1+1;omega) _,h.2.setOther (by show Z w.1≠Z w.1+1;omega) _,TS (C:=Sb) h.3 b q,by rw[Xd];exact h.4⟩
end
def Pt(a:Wi)(v n k:N)(lv:Ys):Prop:=(∀z,z<n->lv z=So->Wh a v z)/\(∀z,z<n->C7 a z v=1->lv z=So)/\(n<k+Un lv n\/(k=n/\Un lv n=0))
def PY(w wr:Ub)(d:Wi)(v n:N)(lv op:Ys)(c:Uj)(b:N):Prop:=∃(g:Bool)(a:Ys),c=Sb g/\OF w wr n a op/\Oj d v n lv a b g
def PV(w wr:Ub)(c:Wi)(v n:N)(lv op:Ys)(d:Uj)(b j:N):Prop:=∃(g:Bool)(a:Ys),d=Sb g/\OF w wr n a op/\Oj c v n lv a b g/\(a b=Sn->∀r,r<j->∀t,(X8 c b)[r]?=S t->¬(a t=So/\Yo c t v=Sn))
theorem BS{bh}(v:N){n}(c_){bf of a w}(hF:Q (YQ w (S ⟨bf,of,U⟩) a))(s:Q (n=J a))(B:Q (Jy bh a)):
 Sk prog 92 #[Hm bf of n c_,H v] w λf w'=>∃g,f=Rt (Hl g n n)/\Sw (Z w.1) w w'/\Z w.1<=g/\∃lv:Ys,w'.rowIs g 4 n (λb=>Sb (lv b))/\∀b,b<n->(lv b=So↔Wh a v b):=by
 have hn:n<=1000:=oP s.o B.1.2;have b0:0<n:=oP s.o B.1.1;have bn:=fM (P:=prog) 159 4 (Sb Sn) 1 underlying159 Q7 R S6 S6 n O O;have af:=Y<|dG w (Sb Sn) n 4;have aj:=Y<|dG (D w<|Sc (madeCells #[Sb Sn] n) 4) (Sb Sn) n 4
 go_in
 go_wp2_with fail
 have al:Q (OF w (D (D w<|Sc (madeCells #[Sb Sn] n) 4) (Sc (madeCells #[Sb Sn] n) 4)) n (λz=>Jd (z<0)&&Jd (C7 a z v=1)) λz=>Jd (z<0)&&Jd (C7 a z v=0)):=Y ⟨Xb (Xb Rf _) _,UC (C:=Sb) (af.alloc _) λz _=>sP,UC (C:=Sb) (by have:=aj.o;rwa[aO]at this) λz _=>sP,sP⟩;clear bn;generalize D (D w _) _=w2 at*
 go_loopw [7] (λW_ wr=>∃b:N,b<=n/\W_=H b/\Q (OF w wr n (λz=>Jd (z<b)&&Jd (C7 a z v=1)) λz=>Jd (z<b)&&Jd (C7 a z v=0))) λW_ _=>n-(JB W_).toNat
 .exact⟨0,aN,R,al⟩
 obtain⟨b,hb,rfl,d⟩:=hrel;by_cases c:b<n
 .let⟨a0,W,a1,n1,a2,n2,a3,n3,a4,n4,a5,n5,c0,c1,c2,c3,c4,c5,aq,x0,x1,x2,x3,x4,x5,_,_,_,_,_,C⟩:=YQ.row B hF d.1 (show b<J a by have:=s.o;omega);have ab:=Y<|C.7 v;clear C;go_wp2_with fail
  refine YU ab λw3 ap=>?_;have L:=Y<|d.below ap;have Y_:=L.2.cell c;have Z_:=L.3.cell c;have z1:=L.2.frozen b;have z2:=L.3.frozen b;clear ap x0 x1 x2 x3 x4 x5;let⟨q1,bo⟩:∃aa:Bool,(((C7 a b v:N):I)==1)=aa:=⟨_,R⟩;let⟨q2,bp⟩:∃aa:Bool,(((C7 a b v:N):I)==0)=aa:=⟨_,R⟩;have HQ:Q (q1=Jd (C7 a b v=1)/\q2=Jd (C7 a b v=0)):=Y (by
   rw[<-bo,<-bp];constructor;·rw[eQ,iA,bD];omega
   rw[eQ,iA,bD];omega)
  have b3:∀a7,E (Se w3 (A (Z w.1) b) a7) (A (Z w.1+1) b)=E w3 (A (Z w.1+1) b):=λa7=>bZ (cY<|by show Z w.1+1≠Z w.1;omega);go_wp2
  exact⟨⟨b+1,O,gM,Y (((L.set1 b q1).set2 b q2).congr (λz e=>by
   by_cases f:z=b;·subst f;simp[HQ.1]
   .have:z<b+1↔z<b:=O
    simp[f,this]) (λz e=>by
   by_cases f:z=b;·subst f;simp[HQ.2]
   have:z<b+1↔z<b:=O
   simp[f,this]))⟩,SA⟩
 have P:n=b:=O;have D_:Q (OF w wr n (λz=>Jd (C7 a z v=1)) λz=>Jd (C7 a z v=0)):=Y (d.congr (λz e=>by simp[<-P,e]) λz e=>by simp[<-P,e]);subst P;clear d;have x:Q (Pt a v n n λz=>Jd (C7 a z v=1)):=Y ⟨λz e h=>Wh.here (oN s.o) (fV h),λz _ h=>eB h,O⟩;go_wp2_with fail
 generalize (λz=>Jd (C7 a z v=1))=br at*;generalize o:(λz=>Jd (C7 a z v=0))=k at*;have ac:Q (∀z,k z=Jd (C7 a z v=0)):=Y (λz=>by rw[<-o]);clear o;generalize wr=w5 at*
 go_loopw [9] (λr wr=>∃(y:N)(lv:Ys),y<=n/\r=H y/\Q (OF w wr n lv k)/\Q (Pt a v n y lv)) λr _=>(JB r).toNat
 .exact⟨n,br,aA,R,D_,x⟩
 obtain⟨y,lv,hk,rfl,D_,x⟩:=hrel;have bv:0<y:=by have F:=x.2.2;have T:=vq lv n;omega
 have u:Q (PY w wr a v n lv k (Sb Sn) 0):=Y ⟨Sn,lv,R,D_,Oj.start x.1 x.2.1⟩;go_wp2_with fail
 generalize wr=w6 at*
 go_loopw [10,11] (λT_ S_ wr=>∃b:N,b<=n/\S_=H b/\Q (PY w wr a v n lv k T_ b)) λ_ S_ _=>n-(JB S_).toNat
 .exact⟨0,aN,R,u⟩
 obtain⟨b,hb,rfl,u⟩:=hrel;by_cases c:b<n;rotate_left
 .have P:b=n:=O;subst P;obtain⟨g,i,rfl,p,V⟩:=u.o;have d:=Y p;have m:=Y V;clear p V;cases g with
  |true=>
   have bd:Q (Pt a v b (y-1) i):=Y ⟨m.1,m.2,by have F:=m.4 R;have T:=x.2.2;have h3:=vq i b;omega⟩
   go_wp2;exact⟨⟨y-1,i,O,gM,d,bd⟩,SA⟩
  |false=>
   go_wp2;go_ret;exact⟨Z w.1,R,d.1,aA,i,d.2,m.done s⟩
 have ar:b<J a:=oN s.o
 let⟨a0,W,a1,n1,a2,n2,a3,n3,a4,n4,a5,n5,c0,c1,c2,c3,c4,c5,aq,y0,_,_,_,_,_,b1,_,_,_,_,C⟩:=YQ.row B hF (dC (Z w.1) w) ar;have R_:=Y C.t;clear C;have C_:Q (PV w wr a v n lv k u10 b 0):=Y (by let⟨g,i,f,F,T⟩:=u.o;exact⟨g,i,f,F,T,λ_ r K=>Sz K O⟩)
 go_wp2_with fail
 generalize wr=w7 at*
 go_loopw [10,12] (λT_ X_ wr=>∃j:N,j<=W/\X_=H j/\Q (PV w wr a v n lv k T_ b j)) λ_ X_ _=>W-(JB X_).toNat
 .exact⟨0,aN,R,C_⟩
 obtain⟨j,hj,rfl,C_⟩:=hrel;obtain⟨g,i,rfl,p,V,hJ⟩:=C_.o;have d:=Y p;have m:=Y V;have Q_:=Y hJ;have k0:=oB p.1 y0 aq;have Y_:=p.2.cell c;have Z_:=p.3.cell c;clear p V hJ;by_cases o:C7 a b v=0;rotate_left
 .have q:k b=Sn:=by rw[ac.o];exact dJ o
  rw[q]at Z_;have l:Q (PY w wr a v n lv k (Sb g) (b+1)):=Y ⟨g,i,R,d,m.next λ_ h=>Sz h o⟩;clear q o;go_wp2;exact⟨⟨b+1,O,gM,l⟩,SA⟩
 have q:k b=So:=by rw[ac.o];exact eB o
 rw[q]at Z_;cases hlb:i b with
 |true=>
  rw[hlb]at Y_;have l:Q (PY w wr a v n lv k (Sb g) (b+1)):=Y ⟨g,i,R,d,m.next λ_ _ _ _ _ _=>hlb⟩;clear hlb q;go_wp2;exact⟨⟨b+1,O,gM,l⟩,SA⟩
 |false=>
  rw[hlb]at Y_;by_cases bm:j<W;rotate_left
  .have l:Q (PY w wr a v n lv k (Sb g) (b+1)):=Y ⟨g,i,R,d,m.next (λ_ _ t M F T=>by let⟨r,K,f⟩:=bR M;exact Sz ⟨F,T⟩ (Q_ hlb r (oN R_.1) t (by rw[aC K,f])))⟩
   clear hlb q;go_wp2;exact⟨⟨b+1,O,gM,l⟩,SA⟩
  have V_:j<J (X8 a b):=by rw[<-R_.1];exact bm
  have bl:j<J (Xi<|X8 a b):=by simp[Xi];exact V_
  obtain⟨bt,ot,rfl,⟨_,bi⟩,L_⟩:=R_.2 j bl;have ao:(Xi<|X8 a b)[j]=(((X8 a b)[j]:N):I):=by simp[Xi]
  rw[ao]at L_;have N_:=aH V_;have a6:=B.1.tg _ ar _ N_;have P_:=Y<|aC V_;let⟨t,M⟩:∃t,t=(X8 a b)[j]:=⟨_,R⟩;rw[<-M]at L_ N_ a6 P_;have be:=Y N_;have az:t<n:=oN s.o;have kt:=oB d.1 L_ bi;have kl:=d.2.cell az;let⟨d0,m0,d1,m1,d2,m2,d3,m3,d4,m4,d5,m5,f0,f1,f2,f3,f4,f5,_,_,t1,_,_,_,_,_,bx,_,_,_,U_⟩:=YQ.row B hF d.1 a6;have a8:=Y<|YF d1 f1 v (Of a t) 0 (Z w.1) wr (Y U_.p.2) (Y U_.p.1) O;have ad:=Y<|qH a t v;clear L_ N_ M ao U_;cases hlt':i t with
  |false=>
   rw[hlt']at kl;have l:Q (PV w wr a v n lv k (Sb g) b (j+1)):=Y ⟨g,i,R,d,m,λh r K z e=>by
    by_cases f:r=j
    .subst f;rw[P_.o]at e;injection e with e;subst e;rw[hlt'];exact λh=>by cases h.1
    exact Q_ h r O z e⟩
   clear hlt' hlb q;go_wp2;exact⟨⟨j+1,O,gM,l⟩,SA⟩
  |true=>
   rw[hlt']at kl;have ba:=Y hlt';have a9:=Y hlb;have bc:=Y o;have z1:=d.2.frozen b;clear hlt' hlb q o;go_wp2_with fail
   refine YU a8 λw8 bq=>?_;subst bq;cases hph:Cg (Of a t) (v:I)with
   |true=>
    have l:Q (PV w w8 a v n lv k (Sb g) b (j+1)):=Y ⟨g,i,R,d,m,λh r K z e=>by
     by_cases f:r=j
     .subst f;rw[P_.o]at e;injection e with e;subst e;rw[ad.o,hph];exact λh=>by cases h.2
     exact Q_ h r O z e⟩
    clear hph;go_wp2_with fail
    refine⟨?_,SA⟩
    first
     |exact⟨j+1,O,gM,l⟩
     |((repeat apply gP);refine⟨?_,R⟩;exact⟨j+1,O,gM,l⟩)
   |false=>
    have l:Q (PV w (Se w8 (A (Z w.1) b) (Sb So)) a v n lv k (Sb So) b (j+1)):=Y ⟨So,_,R,d.set1 b So,m.set s c be az bc a9 ba (by rw[ad.o];exact hph),λh=>by simp at h⟩;clear hph;go_wp2_with fail
    refine⟨?_,SA⟩
    first
     |exact⟨j+1,O,gM,l⟩
     |((repeat apply gP);refine⟨?_,R⟩;exact⟨j+1,O,gM,l⟩)
end
def QC(a b:Ub):Prop:=a=b
def QM(c:Wi)(v b:N)(w:Ub)(e:Ending)(a:Ub):Prop:=∃s:Bool,e=Rt (Sb s)/\(s=So↔UV c v b)/\Sw (Z w.1) w a
theorem A8(c_){of}{c:Ys}(hF:Q (YQ w (S ⟨B,of,U⟩) x))(C:Q (k=J x))(o:Q (Jy n x))(hb:i<k)(b:Q (w.rowIs g 4 k λz=>Sb (c z)))(aa:Q (∀z,z<k->(c z=So↔Wh x m z))):
 Sk prog 93 #[Hm B of k c_,Hl g k k,H m,H i] w λe w'=>QM x m i w e w':=by
 have hn:k<=1000:=oP C.o o.1.2;have T:i<J x:=oN C.o;let⟨a0,F,a1,n1,a2,n2,a3,n3,a4,n4,a5,n5,c0,c1,c2,c3,c4,c5,ac,x0,_,x2,_,_,_,aj,_,al,_,_,l⟩:=YQ.row o hF (dC (Z w.1) w) T;have u:=Y l.t;have d:=Y<|qu c2 m (Y l.e.2) (Y l.e.1) O;clear l;cases hed:Cg (XP x i) (m:I)with
 |true=>
  have s:Q (UV x m i):=Y<|bC (XD.1 hed);rw[hed]at d;clear hed
  go_in
  go_wp2_with fail
  refine YU d λw3 K=>?_;have e3:=K.symm;subst e3;go_wp2;go_ret;exact⟨So,R,⟨λ_=>s,λ_=>R⟩,Rf⟩
 |false=>
  have U_:Q (¬(m:I)∈XP x i):=Y (λh=>by rw[XD.2 h]at hed;cases hed);rw[hed]at d;clear hed
  go_in
  go_wp2_with fail
  refine YU d λw3 K=>?_;have e3:=K.symm;subst e3;go_wp2
  go_loopw [9] (λP wr=>∃j:N,j<=F/\P=H j/\Q (QC wr w)/\Q (∀r,r<j->∀t,(X8 x i)[r]?=S t->¬Ol x m t)) λP _=>F-(JB P).toNat
  .exact⟨0,aN,R,Y R,Y λr b=>Sz b O⟩
  obtain⟨j,hj,rfl,L,V⟩:=hrel;have X_:=Eq.symm L;clear L;subst X_;by_cases Z_:j<F;rotate_left
  .have a:Q (¬UV x m i):=Y (by
    rintro(h|⟨t,p,h⟩);·exact U_ h
    let⟨r,b,e⟩:=bR p
    exact V r (oN u.1) t (by rw[aC b,e]) h)
   go_wp2;go_ret;exact⟨Sn,R,⟨λh=>(by cases h),λh=>Sz h a⟩,Rf⟩
  have y:j<J (X8 x i):=by rw[<-u.1];exact Z_
  have Y_:j<J (Xi<|X8 x i):=by simp[Xi];exact y
  obtain⟨bt,ot,rfl,⟨_,ad⟩,W⟩:=u.2 j Y_;have M:(Xi<|X8 x i)[j]=(((X8 x i)[j]:N):I):=by simp[Xi]
  rw[M]at W;have q:=aH y;have Q_:=o.1.tg _ T _ q;have G_:=Y<|aC y;let⟨t,p⟩:∃t,t=(X8 x i)[j]:=⟨_,R⟩;rw[<-p]at W q Q_ G_;have V_:=Y q;have P_:t<k:=oN C.o
  have R_:=b.cell P_;have H_:=Y<|aa.o t P_;let⟨d0,m0,d1,m1,d2,m2,d3,m3,d4,m4,d5,m5,f0,f1,f2,f3,f4,f5,_,_,t1,_,_,_,_,_,af,_,_,_,v⟩:=YQ.row o hF (dC (Z w.1) w) Q_;have S_:=Y<|YF d1 f1 m (Of x t) 0 (Z w.1) w (Y v.p.2) (Y v.p.1) O;have K_:=Y<|qH x t m;clear q p M v;have I_:Q (¬Ol x m t->∀r,r<j+1->∀t,(X8 x i)[r]?=S t->¬Ol x m t):=Y (λh r b z f=>by
   by_cases e:r=j
   .subst e;rw[G_.o]at f;injection f with f;subst f;exact h
   exact V r O z f)
  cases hlt':c t with
  |false=>
   rw[hlt']at R_;have a:=Y (I_.o λh=>by rw[H_.2 h.2]at hlt';cases hlt');clear hlt';go_wp2;exact⟨⟨j+1,O,gM,Y R,a⟩,SA⟩
  |true=>
   rw[hlt']at R_;have T_:=Y<|H_.1 hlt';clear hlt';go_wp2_with fail
   refine YU S_ λw8 ab=>?_;have W_:=ab.symm;subst W_;cases hph:Cg (Of x t) (m:I)with
   |true=>
    have a:Q (∀r,r<j+1->∀t,(X8 x i)[r]?=S t->¬Ol x m t):=Y (I_.o λh=>by have:=h.1;rw[K_.o,hph]at this;cases this);clear hph;go_wp2_with fail
    refine⟨?_,SA⟩
    first
     |exact⟨j+1,O,gM,Y R,a⟩
     |((repeat apply gP);refine⟨?_,R⟩;exact⟨j+1,O,gM,Y R,a⟩)
   |false=>
    have s:Q (UV x m i):=Y (aZ ⟨t,V_,by rw[K_.o];exact hph,T_⟩);clear hph;go_wp2;go_ret;exact⟨So,R,⟨λ_=>s,λ_=>R⟩,Rf⟩
section
structure ON(w:Ub)(base ns:N)(G_ m:Wk)(P:N->Tj)(U_:N->Vu):Prop where
 lt:∀s,s<ns->G_ s<base
 ne:∀s s',s<ns->s' < ns->s≠s'->G_ s≠G_ s'
 row:∀s,s<ns->w.rowIs (G_ s) 61 (m s) (U_ s)
 own:∀s i,s<ns->i<m s->Sx w base 2 1 (U_ s i) (J (P s i)) ((P s i).map (Si S6))
 dj:∀s i s' j,s<ns->s' < ns->i<m s->j<m s'->(s,i)≠(s',j)->(U_ s i).ownBlock=U\/(U_ s i).ownBlock≠(U_ s' j).ownBlock
section
variable {w w' w1: Ub} {base ns: N} {G_ m: N -> N} {P P': N -> N -> Wc} {U_: N -> N -> Uj}
theorem ON.below(h:ON w base ns G_ m P U_)(k:Sw (Z w.1) w w'):ON w' base ns G_ m P U_:=by refine⟨h.1,h.2,λs a=>(h.3 s a).of_block (k.5 _ (h.3 s a).lt),λs i a d=>?_,h.5⟩;refine(h.4 s i a d).kept (row:=U) ⟨k.1,k.2,k.3,k.4,λb c _=>k.5 b c⟩ ?_;cases (U_ s i).ownBlock<;>simp
theorem ON.congr(h:ON w base ns G_ m P U_)(e:∀s i,s<ns->i<m s->P s i=P' s i):ON w base ns G_ m P' U_ :=
 ⟨h.1,h.2,h.3,λs i b a=>by rw[<-e s i b a];exact h.4 s i b a,h.5⟩
theorem ON.step(h:ON w base ns G_ m P U_){s t}(f:s<ns)(g:t<m s)(y)(c:Uj)(u:w.grownBy w1 (U_ s t).ownBlock)(z:Sx w1 base 2 1 c (J (P s t)+1) ((P s t).map (Si S6)++[Si S6 y]))(r:c.ownBlock=(U_ s t).ownBlock\/c.ownBlock=S (Z w.1)):
 ON (Se w1 ⟨G_ s,t,U⟩ c) base ns G_ m (λa i=>if (a,i)=(s,t)then P s t++[y]else P a i) (λa i=>if (a,i)=(s,t)then c else U_ a i):=by
 have x:=λa b=>(h.3 a b).of_block (u.5 _ (h.3 a b).lt λe=>by have:=((h.4 s t f g).lt _ e.symm).1;have:=h.1 a b;omega)
 have fresh:∀a q,a < ns->q<m a->(U_ a q).ownBlock=U\/(U_ a q).ownBlock≠S (Z w.1):=λa q b hq=>by
  by_cases e:(U_ a q).ownBlock=S (Z w.1);·have:=((h.4 a q b hq).lt _ e).2;omega
  exact aZ e
 refine⟨h.1,h.2,λa b=>?_,λa i b d=>?_,λs1 i s2 j l n d p v=>?_⟩
 .by_cases e:a=s
  .subst e;exact((x a b).set t c).congr (λi _=>by by_cases e2:i=t<;>simp[e2])
  exact((x a b).setOther (a:=(A (G_ s) t)) (λe2=>h.2 a s b f e e2) c).congr λi _=>by simp[e]
 .refine ke ?_ (h.1 s f) _;by_cases e:(a,i)=(s,t)
  .simp only[e,gG,aQ,bA,bO,bG,eH,fZ];exact z
  simp only[e,fD];exact(h.4 a i b d).kept u (h.5 a i s t b f d g e)
 by_cases e1:(s1,i)=(s,t)
 .have e2:¬(s2,j)=(s,t):=λe=>v<|G e1 e.symm;simp only[e1,gG,e2,fD];obtain q|q:=r
  .rw[q];exact h.5 s t s2 j f n g p λe=>e2 e.symm
  right
  rw[q];intro o;obtain k|k:=fresh s2 j n p;·rw[k]at o;cases o
  exact k o.symm
 simp only[e1,fD];by_cases e2:(s2,j)=(s,t)
 .simp only[e2,gG];obtain q|q:=r;·rw[q];exact h.5 s1 i s t l f d g e1
  rw[q];exact fresh s1 i l d
 simp only[e2,fD];exact h.5 s1 i s2 j l n d p v
theorem ON.other(h:ON w base ns G_ m P U_){b T q:N}{f:Vu}(l:w.rowIs b T q f)(k:T≠2){s i}(o:s<ns)(n:i<m s):(U_ s i).ownBlock≠S b:=λe=>by
 let⟨c,d,_⟩:=l;rcases(h.4 s i o n).2 with⟨e1,_⟩|⟨g,cap,cur,e1,_,a,_⟩;·rw[e1]at e;cases e
 rw[e1]at e;injection e with e;have e:g=b:=e;subst e;rw[show w.1[g]?=_ from d]at a;injection a with a;injection a with _ j;exact k j
theorem ON.ints(h:ON w base ns G_ m P U_){s}(a:s<ns){L}(e:L<=G_ s):XR w L (Z w.1) (S ⟨G_ s,0,U⟩) ((Rg<|m s).map (P s)):=λi b=>by
 simp only[bK,gI]at b;let⟨d,c,f,ha⟩:=Xk<|h.4 s i a b;refine⟨G_ s,0,R,⟨e,(h.3 s a).lt⟩,d,c,?_,?_⟩
 .simp only[cM,dW,aV];rw[(h.3 s a).cell b,f]
 simp only[cM,dW];exact ha.mono (oN<|h.1 s a) aA
end
structure OA(w3 wr:Ub)(ns:N)(G_ m:Wk)(P:N->Tj):Prop where
 os:wr.4=w3.4
 tape:wr.2=w3.2
 output:wr.5=w3.5
 size:Z w3.1<=Z wr.1
 fr:∀q,q<Z w3.1->(∀s,s<ns->q≠G_ s)->wr.1[q]?=w3.1[q]?
 db:∃U_,ON wr (Z w3.1) ns G_ m P U_
section
variable {w3 wr wr' w8: Ub} {ns: N} {G_ m: N -> N} {P P': N -> N -> Wc}
theorem OA.below(h:OA w3 wr ns G_ m P)(k:Sw (Z wr.1) wr wr'):OA w3 wr' ns G_ m P:=by let⟨U_,c⟩:=h.6;have:=h.4;exact⟨G k.1 h.1,G k.2 h.2,G k.3 h.3,aJ h.4 k.4,λq a b=>G (k.5 q O) (h.5 q a b),U_,c.below k⟩
theorem OA.congr(h:OA w3 wr ns G_ m P)(e:∀s i,s<ns->i<m s->P s i=P' s i):OA w3 wr ns G_ m P':=by let⟨U_,a⟩:=h.6;exact⟨h.1,h.2,h.3,h.4,h.5,U_,a.congr e⟩
theorem OA.cell(h:OA w3 wr ns G_ m P){b o}{v:Uj}(c:∀s,s<ns->b≠G_ s)(a:E w3 (A b o)=S v):E wr (A b o)=S v:=G (Xc<|h.5 b (aI w3 _ a) c) a
theorem OA.push{U_:N->Vu}{s t j x}{b:Uj}(h:OA w3 wr ns G_ m P)(e:ON wr (Z w3.1) ns G_ m P U_)(d:s<ns)(n:t<m s)(c:(D wr.drew j).grownBy w8 (U_ s t).ownBlock)(K:Sx w8 (Z w3.1) 2 1 b (J (P s t)+1) ((P s t).map (Si S6)++[Si S6 x]))(C:b.ownBlock=(U_ s t).ownBlock\/b.ownBlock=S (Z wr.1+1)):
 OA w3 (Se w8 ⟨G_ s,t,U⟩ b) ns G_ m (λy v=>if (y,v)=(s,t)then P s t++[x]else P y v)/\E w8 ⟨G_ s,t,U⟩=S (U_ s t)/\w8.frozen? ⟨G_ s,t,U⟩=Sn/\(∀q,q<Z wr.1->q≠G_ s->(U_ s t).ownBlock≠S q->w8.1[q]?=wr.1[q]?/\(Se w8 ⟨G_ s,t,U⟩ b).1[q]?=wr.1[q]?)/\Z wr.1<=Z (Se w8 ⟨G_ s,t,U⟩ b).1:=by
 have T:=h.4;have F:=c.4;have B:Z (D wr.drew j).1=Z wr.1+1:=aO _ _;have p:∀k,k<Z wr.1->(D wr.drew j).1[k]?=wr.1[k]?:=λk r=>gF wr.drew _ _ r;have L:ON (D wr.drew j) (Z w3.1) ns G_ m P U_:=e.below ⟨R,R,R,O,p⟩;have M:=L.step d n x b c K (by rw[B];exact C);have u:∀k,k<Z w3.1->(U_ s t).ownBlock≠S k:=λk r l=>by have:=((e.4 s t d n).lt k l).1;omega
 have i:∀k,k<Z wr.1->(U_ s t).ownBlock≠S k->w8.1[k]?=wr.1[k]?:=λk a g=>G (c.5 k O λl=>g l.symm) (p k a);have z:=e.1 s d;have o:=i (G_ s) O (u _ z);refine⟨⟨G c.1 h.1,G c.2 h.2,G c.3 h.3,SF,λq a f=>?_,_,M⟩,G (Xc o) ((e.3 s d).cell n),G (bJ o) ((e.3 s d).frozen t),λq a f g=>⟨i q a g,G (cY f) (i q a g)⟩,SF⟩;exact G (cY<|f s d) (G (i q O<|u q a) (h.5 q a f))
end
end
def Pc(x:Xe)(a:Wk):Wk:=VI a (J x.2+1,Id x.3,[])
def Ou(x:Xe)(a:Wk)(k:N):Wk:=((Us (J x.2) k).map (VH x)).foldl VI (Pc x a)
theorem qx(q:N×Wc×Wc):Xh (Uo f q) n=(Jd (n∈X9 q.2.2)||Xh f n):=by unfold Uo;rw[YR]
theorem vx(q:N×Wc×Wc):Xh (VI f q) n=(Jd (n∈X9 q.2.1)||(Jd (n∉X9 q.2.2)&&Xh f n)):=by unfold VI;rw[YR,Kt,qx];by_cases h:n∈X9 q.2.2<;>simp[h]
theorem Ds(a)(b:n<J q.2):Ou q a n=VI (Ou q a<|n+1) (VH q ⟨n,b⟩):=by unfold Ou;rw[TJ b,bG,dT];rfl
theorem qQ{x a v q}(hq:Xh a v=q)(g:∀y∈x.2,(∀v∈Iw y,0<=v)/\∀v∈BW y,0<=v)(f:∀v∈Id x.3,0<=v):∀d k,k+d=J x.2->Xh (Ou x a k) v=JT x v q k
 |0,k,b=>by have b:k=J x.2:=O;subst b;rw[WT v q<|aA];unfold Ou;rw[Ua];show Xh (VI a (J x.2+1,Id x.3,[])) v=_;rw[vx,hq,eQ,dI,dI,bD,YV f,XD];simp[X9]
 |d+1,k,b=>by
  have c:k<J x.2:=O;have h:=qQ hq g f d (k+1) O;have e:=g x.2[k] (aH c);rw[Ds a c,vx,h,qe v q c];show(Jd (v∈X9 (Iw x.2[k]))||(Jd (v∉X9 (BW x.2[k]))&&JT x v q (k+1)))=_;have e1:Jd (v∈X9 (Iw x.2[k]))=Cg (Iw x.2[k]) (v:I):=by rw[eQ,bD,YV e.1,XD]
  have e2:Jd (v∉X9 (BW x.2[k]))=! Jd (H7 x.2[k]=(v:I)):=by rw[eQ];simp only[bD,lV,fC,YV e.2,YN]
  rw[e1,e2,Bool.and_comm]
theorem vz(x a):∀d k,k+d=J x.2->TZ (J x.2) (Pc x a) ((Us (J x.2) k).map (VH x))=(Us (J x.2) k).map λj:Fin (J x.2)=>((j:N)+1,Uo (Ou x a<|(j:N)+1) (VH x j))
 |0,k,b=>by have b:k=J x.2:=O;subst b;rw[Ua];rfl
 |d+1,k,b=>by have c:k<J x.2:=O;have e:=vz x a d (k+1) O;rw[TJ c,bG,bG,eH,fZ,Ky,e];congr 1;unfold N9;rw[aU<|show(VH x ⟨k,c⟩).1<=J x.2 from c];rfl
theorem qw(x)(a:Wk):TZ (J x.2) a (NS x)=((Us (J x.2) 0).map λj:Fin (J x.2)=>((j:N)+1,Uo (Ou x a<|(j:N)+1) (VH x j)))++[(0,Uo (Ou x a 0) (0,[],x.1.map Ph.dst))]:=by
 unfold NS;show N9 (J x.2) a (J x.2+1,Id x.3,[])++TZ (J x.2) (Pc x a) ((Us (J x.2) 0).map (VH x)++[(0,[],x.1.map Ph.dst)])=_;rw[Ky,vz x a (J x.2) 0 O];have e1:N9 (J x.2) a (J x.2+1,Id x.3,[])=[]:=by unfold N9;rw[aM sP]
 have e2:N9 (J x.2) (((Us (J x.2) 0).map (VH x)).foldl VI (Pc x a)) (0,[],x.1.map Ph.dst)=[(0,Uo (Ou x a 0) (0,[],x.1.map Ph.dst))]:=by unfold N9;rw[aU<|aN];rfl
 rw[e1,e2];rfl
theorem FQ(d:Jy n x)(i:m<J x)(hq:Xh f k=r)(h:(B,F)∈TZ (J x[m].2) f (NS x[m])):B<=J x[m].2/\Xh F k=Ox x x[m] m B k r:=by
 have c:=aH i;have b:∀y∈x[m].2,(∀k∈Iw y,0<=k)/\∀k∈BW y,0<=k:=λy b=>⟨λz a=>(d.5 _ c y b z a).1,λz a=>(d.6 _ c y b z a).1⟩;have l:=λz a=>(d.7 _ c z a).1;rw[qw]at h;obtain h|h:=bU.1 h
 .let⟨j,_,e⟩:=aY.1 h
  have e1:(j:N)+1=B:=fI Prod.fst e;have e2:Uo (Ou x[m] f ((j:N)+1)) (VH x[m] j)=F:=fI Prod.snd e;subst e1 e2;have g:=j.2;refine⟨g,?_⟩;rw[qx,qQ hq b l (J x[m].2-(j+1)) (j+1) O];show _=(JT x[m] k r ((j:N)+1)||(match x[m].2[(j:N)]? with
   |none=>Sn
   |some y=>Jd (H7 y=(k:I))))
  rw[aC g,nF];congr 1;rw[eQ,bD,bD,YN];exact YV (b _<|aH g).2
 have e:=cS.1 h;have e1:B=0:=fI Prod.fst e;have e2:F=Uo (Ou x[m] f 0) (0,[],x[m].1.map Ph.dst):=fI Prod.snd e;subst e1 e2;refine⟨aN,?_⟩;rw[qx,qQ hq b l (J x[m].2) 0 O];show _=(JT x[m] k r 0||Yo x m k);rw[nF];congr 1;unfold Yo;rw[aC i,eQ,bD];show k∈X9 (x[m].1.map Ph.dst)↔Cg (x[m].1.map Ph.dst) (k:I)=So;rw[XD];exact YV λz a=>by obtain⟨p,o,rfl⟩:=aY.1 a;exact(d.8 _ c p o).1
theorem wm(d:Jy n x)(e:m<J x)(hq:r=So->k<n)(h:JT x[m] k r B=So):k<n:=by
 have c:=aH e;unfold JT at h;obtain a|⟨y,f,a⟩:=TV _ (fV h)
 .rcases dI _ _▸a with b|b;·have:=(d.7 _ c _<|XD.1 b).2;omega
  exact hq b
 have:=(d.5 _ c y (List.mem_of_mem_drop f) _ a).2;omega
theorem Gp(c:Jy n x)(b:m<J x)(hq:r=So->k<n)(h:Ox x x[m] m B k r=So):k<n:=by
 have d:=aH b;cases B with
 |zero=>
  obtain a|a:=dI _ _▸(show(JT x[m] k r 0||Yo x m k)=So from h);·exact wm c b hq a
  unfold Yo at a;rw[aC b]at a;let⟨p,g,i⟩:=aY.1<|XD.1 a;have:=(c.8 _ d p g).2;omega
 |succ j=>
  have e:(JT x[m] k r (j+1)||(match x[m].2[j]? with
   |none=>Sn
   |some y=>Jd (H7 y=(k:I))))=So:=h
  obtain a|a:=dI _ _▸e;·exact wm c b hq a
  cases hj:x[m].2[j]? with
  |none=>rw[hj]at a;cases a
  |some y=>
   rw[hj]at a;have f:=YN.1<|fV a;have:=(c.6 _ d y (eN hj) _ f).2;omega
open Classical in
noncomputable def Uq(a:Wi)(x:Xe)(V b i:N):Wa:=(Rg V).filter λv=>Ox a x b i v<|Jd (UV a v b)
open Classical in
theorem wW(b:Jy n x)(a:m<J x)(l:n<=k)(hq:∀v,v<k->(Xh f v=So↔UV x v m)){W:Wk}(h:(i,W)∈TZ (J x[m].2) f (NS x[m])):Mq W k=Uq x x[m] n m i:=by
 have d:∀v,v<k->Xh W v=Ox x x[m] m i v (Jd (UV x v m)):=λv c=>(FQ b a (by rw[eQ,hq v c,bD]) h).2
 rw[qB l (λv o e=>by rw[<-gU,d v e];intro g;have:=Gp b a (λj=>(fV j:UV x v m).val b a) g;omega)]
 unfold Mq Uq;apply lW;intro v c;have:=bE.1 c;exact d v O
noncomputable def UU(a:List Xe)(v b i:N):List I:=match a[b]? with
 |none=>[]
 |some x=>Xi<|Uq a x v b i
open Classical in
noncomputable def N2(a:List Xe)(b i v:N):Bool:=match a[b]? with
 |none=>Sn
 |some x=>Ox a x b i v<|Jd (UV a v b)
theorem De:UU x 0 n m=[]:=by unfold UU;cases x[n]?<;>rfl
theorem um:UU x (n+1) m k=if N2 x m k n=So then UU x n m k++[(n:I)]else UU x n m k:=by
 unfold UU N2;cases x[m]? with
 |none=>simp
 |some a=>
  simp only;unfold Uq;rw[dN,eU];by_cases h:Ox x a m k n (@decide (UV x n m) (Classical.propDecidable _))=So
  .rw[aU h];simp[h,Xi]
  rw[aM h];simp[h]
theorem qy(a:Wi)(v b i):J (UU a v b i)<=v:=by
 unfold UU;cases a[b]? with
 |none=>exact aN
 |some x=>
  simp only[Xi,bK];unfold Uq;exact aJ (fJ _ _) sP
noncomputable def pQ(a:Wi)(v b i:N)(s j:N):Wc:=if s<b\/s=b/\j<i then UU a (v+1) s j else UU a v s j
theorem E4(a v s j):pQ a v 0 0 s j=UU a v s j:=by unfold pQ;rw[aM O]
theorem FC(a:k<m):pQ x n m 0 k B=UU x (n+1) k B:=by unfold pQ;rw[aU<|bC a]
theorem Es(a:B=k->g<m):pQ x n k m B g=pQ x n (k+1) 0 B g:=by
 unfold pQ;by_cases h:B<k+1;·rw[aU (by by_cases e:B=k;(· exact aZ ⟨e,a e⟩);(· exact bC O)),aU<|bC h]
 rw[aM O,aM O]
theorem Gh(h:N2 x m k n=Sn)(s j):pQ x n m k s j=pQ x n m (k+1) s j:=by
 unfold pQ;by_cases e:s=m/\j=k
 .obtain⟨rfl,rfl⟩:=e;rw[aM O,aU O,um,h];simp
 by_cases a:s<m\/s=m/\j<k;·rw[aU a,aU O]
 rw[aM a,aM O]
theorem FI(h:N2 x m k n=So)(s j):(if (s,j)=(m,k)then pQ x n m k m k++[(n:I)]else pQ x n m k s j)=pQ x n m (k+1) s j:=by
 by_cases e:(s,j)=(m,k)
 .rw[aU e];injection e with e1 e2;subst e1 e2;unfold pQ;rw[aM O,aU O,um,aU h]
 rw[aM e];have b:¬(s=m/\j=k):=λh=>e (by rw[h.1,h.2]);unfold pQ;by_cases a:s<m\/s=m/\j<k;·rw[aU a,aU O]
 rw[aM a,aM O]
theorem FG(a v b i s j):J (pQ a v b i s j)<=v+1:=by
 unfold pQ;split;·exact qy _ _ _ _
 have:=qy a v s j;omega
structure PC(w2 wr:Ub)(u:Uj)(b:N)(m:Wk)(G_:Wk):Prop where
 low:Sw (Z w2.1) w2 wr
 own:Sx wr (Z w2.1) 106 1 u b ((Rg b).map λs=>X (S ⟨G_ s,0,U⟩) (m s) (m s))
 row:∀s,s<b->Z w2.1<=G_ s/\wr.rowIs (G_ s) 61 (m s) λ_=>X U 0 0
 ne:∀s s',s<b->s' < b->s≠s'->G_ s≠G_ s'
theorem PC.start(a m):PC a (D a<|Sc #[] 106) (X (S ⟨Z a.1,0,U⟩) 0 0) 0 m (λ_=>0):=⟨Xb Rf _,eI (base:=Z a.1) (e:=106) (size:=1) a #[] 0 sP sP R,λs h=>Sz h O,λs b h=>Sz h O⟩
theorem PC.push{wr}{u':Uj}{K}(h:PC w wr a n f F)(d:(D (D wr<|Sc (madeCells #[X U 0 0] (f n)) 61) K).grownBy v a.ownBlock)(L:Sx v (Z w.1) 106 1 u' (n+1) ((Rg n).map (λs=>X (S ⟨F s,0,U⟩) (f s) (f s))++[X (S ⟨Z wr.1,0,U⟩) (f n) (f n)])):
 PC w v u' (n+1) f (λs=>if s=n then Z wr.1 else F s):=by
 have C:=h.1.4;have x:=d.4;rw[aO,aO]at x;have z:∀q T t o,wr.rowIs q T t o->T≠106->a.ownBlock≠S q:=λq T t o i u e=>by
  let⟨c,j,_⟩:=i;obtain⟨e1,_⟩|⟨g,cap,cur,e1,_,b,_⟩:=h.2.2;·rw[e1]at e;cases e
  rw[e1]at e;injection e with e;have e:g=q:=e;subst e;rw[show wr.1[g]?=_ from j]at b;injection b with b;injection b with _ l;exact u l
 have B:=λq e=>(h.2.lt q e).2;have r:∀q,q<Z wr.1->a.ownBlock≠S q->v.1[q]?=wr.1[q]?:=λq j b=>G (d.5 q (by rw[aO,aO];omega) λe=>b e.symm) (G (gF _ _ _<|by rw[aO];omega) (gF _ _ _ j));have y:v.1[Z wr.1]?=(D wr<|Sc (madeCells #[Hq] (f n)) 61).1[Z wr.1]?:=G (d.5 _ (by rw[aO,aO];omega) λe=>by have:=B _ e.symm;omega) (gF _ _ _<|by rw[aO];omega);refine⟨⟨G d.1 h.1.1,G d.2 h.1.2,G d.3 h.1.3,O,λq hq=>G (r q O λe=>by have:=(h.2.lt q e).1;omega) (h.1.5 q hq)⟩,?_,λs k=>?_,λs m j b l=>?_⟩
 .rw[dN,bG,eH,fZ,aU R,gH (g:=λs=>Hl (F s) (f s) (f s)) λs k=>by rw[aM<|oN (bE.1 k)]];exact L
 .by_cases e:s=n
  .subst e;rw[aU R];exact⟨C,(dG wr Hq (f s) 61).of_block y⟩
  rw[aM e];have i:=h.3 s O;exact⟨i.1,i.2.of_block<|r _ i.2.lt (z _ _ _ _ i.2 vY)⟩
 have p:=λs k=>(h.3 s k).2.lt;by_cases e1:s=n
 .have:=p m O;rw[aU e1,aM O];omega
 by_cases e2:m=n
 .have:=p s O;rw[aM e1,aU e2];omega
 rw[aM e1,aM e2];exact h.4 s m O O l
section
open Classical in
noncomputable def OP(xs:List Xe)(b v k:N):Bool:=match xs[b]? with
 |none=>Sn
 |some x=>JT x v (Jd (UV xs v b)) k
section
variable {xs: Wi} {b v: N}
theorem C6:N2 xs b 0 v=(OP xs b v 0||Yo xs b v):=by
 unfold N2 OP Yo;cases h:xs[b]? with
 |none=>rfl
 |some x=>simp only[Ox,Yo,h]
theorem Dv{j}(a:j<J (Tu xs b)):N2 xs b (j+1) v=(OP xs b v (j+1)||Jd ((Tu xs b)[j]=(v:I))):=by
 have c:=a;revert a;unfold N2 OP Tu at*;cases h:xs[b]? with
 |none=>intro a;exact Sz a sP
 |some x=>
  intro a;simp only[Z2,bK]at a;simp only[Ox,Z2,cM];rw[aC a]
open Classical in
theorem E7(a:b<J xs){q}(hq:q=So↔UV xs v b):OP xs b v (J (Tu xs b))=(q||Cg (PA xs b) (v:I)):=by
 have e:(@decide (UV xs v b) (Classical.propDecidable _))=q:=by rw[eQ,hq,bD]
 unfold OP Tu PA;rw[aC a];simp only[Z2,bK];rw[WT _ _<|aA,e,nF]
theorem Do{j}(a:j<J (Tu xs b))(c:j<J (OW xs b)):OP xs b v j=(Cg (OW xs b)[j] (v:I)||(OP xs b v (j+1)&&! Jd ((Tu xs b)[j]=(v:I)))):=by
 revert a c;unfold OP Tu OW;cases h:xs[b]? with
 |none=>intro a;exact Sz a sP
 |some x=>
  intro a c;simp only[Z2,bK]at a;simp only[Z2,Jv,cM];exact qe _ _ a
open Classical in
theorem ET(a:b<J xs):OP xs b v 0=So↔Wh xs v b:=by unfold OP;rw[aC a];exact vk a<|by rw[bD]
theorem FE:J (OW xs b)=J (Tu xs b):=by
 unfold OW Tu;cases xs[b]? with
 |none=>rfl
 |some x=>simp[Jv,Z2]
end
theorem DY(xs:Wi)(b):∀l∈OW xs b,J l<=2:=λl a=>by
 unfold OW at a;cases h:xs[b]? with
 |none=>rw[h]at a;exact Sz a eA
 |some x=>
  rw[h]at a;let⟨y,_,c⟩:=aY.1 a;rw[<-c];exact oU y
structure Ob(wb wr:Ub)(gl n:N)(lv:Ys)(gi m:N)(f:Ys):Prop where
 low:Sw (Z wb.1) wb wr
 gll:gl<Z wb.1
 lr:wr.rowIs gl 4 n λz=>Sb (lv z)
 ge:Z wb.1<=gi
 ir:wr.rowIs gi 4 m λz=>Sb (f z)
section
variable {wb wr w': Ub} {gl n gi m: N} {lv f f': N -> Bool}
theorem Ob.below(h:Ob wb wr gl n lv gi m f)(k:Sw (Z wr.1) wr w'):Ob wb w' gl n lv gi m f:=⟨Xg h.1 k,h.2,h.3.of_block<|k.5 _ h.3.lt,h.4,h.5.of_block<|k.5 _ h.5.lt⟩
theorem Ob.congr(h:Ob wb wr gl n lv gi m f)(e:∀z,z<m->f z=f' z):Ob wb wr gl n lv gi m f':=⟨h.1,h.2,h.3,h.4,UC (C:=Sb) h.5 e⟩
theorem Ob.set(h:Ob wb wr gl n lv gi m f)(k q):Ob wb (Se wr ⟨gi,k,U⟩ (Sb q)) gl n lv gi m (λz=>if z=k then q else f z):=by have:=h.4;have:=h.2;exact⟨h.1.setCell (by show Z wb.1<=gi;omega) _,h.2,h.3.setOther (by show gl≠gi;omega) _,h.4,TS (C:=Sb) h.5 k q⟩
end
noncomputable def Oo(xs:Wi)(b v k z:N):Bool:=Jd (k<z)&&N2 xs b z v
theorem Fd{xs b v k z}(a:z<k+1):Oo xs b v k z=Sn:=by unfold Oo;simp;omega
theorem Dy{xs:Wi}{b v j q}(hq:q=N2 xs b (j+1) v)(z):(if z=j+1 then q else Oo xs b v (j+1) z)=Oo xs b v j z:=by
 unfold Oo;by_cases e:z=j+1
 .subst e;rw[aU R,hq];simp
 rw[aM e];by_cases h:j<z;·rw[eB h,eB<|show j+1<z by omega]
 rw[dJ h,dJ<|show ¬j+1<z by omega]
theorem Em{xs:Wi}{b v q}(hq:q=N2 xs b 0 v)(z):(if z=0 then q else Oo xs b v 0 z)=N2 xs b z v:=by
 by_cases e:z=0;·subst e;rw[aU R,hq]
 rw[aM e];unfold Oo;rw[eB (show 0<z by omega),rS]
def Gw(w w':Ub)(n V:N)(xs:Wi)(e:Ending):Prop:=∃(a c:N)(d:Wk),e=Rt (X (S ⟨a,0,U⟩) n c)/\Sw (Z w.1) w w'/\Z w.1<=a/\∀s,s<n->E w' ⟨a,s,U⟩=S (X (S ⟨d s,0,U⟩) (J (Tu xs s)+1) (J (Tu xs s)+1))/\Z w.1<=d s/\XR w' (Z w.1) (Z w'.1) (S ⟨d s,0,U⟩) ((Rg<|J (Tu xs s)+1).map (UU xs V s))
end
def Zj(k:N):Code->Option Code
 |.region i ops d=>if i=k then S (.region i ops d)else U
 |.seq x y=>match Zj k x with
  |some c=>S c
  |none=>Zj k y
 |.block _ c=>Zj k c
 |.scope c=>Zj k c
 |.loop c=>Zj k c
 |.cond _ x y=>match Zj k x with
  |some c=>S c
  |none=>Zj k y
 |_=>U
noncomputable def Gj:Code:=(f46.9.bind<|Zj 27).getD .skip
theorem F4(V d v u e)(lv:Ys)(c l h){wr}{t:Yt}{c0 c1 c2 c3 c5 W ab a0 bo b5 ce cf ch ci cj ck cl cm cn co cp cq cr cs ct cv cw cx cz c6 c7 c9 da db dc dd df di dj dk dl:Uj}(dn ds du dw dz d0 ea eb ec ed ee ef eg ei ej ek el em en eo ep eq er es et eu ev ey ez e0 e6 e7 e8 e9 fa fb fc fe fi fj fl fn fq fr fs fx fz f0 f4 f5 f6 f7 ga P R_ S_ T_ U_ W_ X_ Y_ Z_ aa ac ad af aj al ao ap aq ar az a1 a2 a3 a4 a5 a6 a7 a8 a9 ba bb bc bd be bf bh bi bl bm bn bp bq br bt bv bx b0 b1 b3 b4 b6 b7 b8 ca cb cc cd g3 g4 g5 g6 g7 g9 hb hc hd he hf hg hh hi hj hk hl hm hn ho cg)(hQ:Q (∀c_ (N_:Act) t_ n w_,t (.panic c_) (N_.put (S t_) n) w_->t (.panic c_) N_ w_))(hv:n<V)(hV:V<=2000)(b:g<m)(iv:i<d+1)(L_:Q (l g=d+1))(o:Q (OA h wr m c l<|pQ e n g i))(F:Q (wr.rowIs v 4 m λz=>Sb (lv z)))(L:Q (wr.rowIs u 4 (d+1) λz=>Sb (N2 e g z n)))(g1:Q (N2 e g i n=So))(gz:Q (E h ⟨B,g,U⟩=S (X (S ⟨c g,0,U⟩) (l g) (l g))))(M_:Q (∀s,s<m->B≠c s))(jf:B<Z h.1)(gq:Q (Z h.1<=v))(gp:Q (Z h.1<=u))(hN:Q (∀(hr ht hw hx hy hz h0 h1 h2 h3 h4 h5 h6 h7 h8 h9 ia ib ic ih:Uj)(w:Ub),Q (OA h w m c l<|pQ e n g (i+1))->Q (w.rowIs v 4 m λz=>Sb (lv z))->Q (w.rowIs u 4 (d+1) λz=>Sb (N2 e g z n))->t .normal ⟨#[c0,c1,c2,c3,X (S ⟨B,0,U⟩) m k,c5,Si S6 (n:I),a,Si S6 (g:I),A_,W,ab,a0,Si S6 (i:I),bo,b5,ce,cf,ch,ci,cj,ck,cl,cm,cn,co,cp,cq,cr,cs,ct,cv,cw,cx,cz,c6,c7,c9,da,db,dc,dd,df,di,dj,dk,dl,dn,ds,du,dw,dz,d0,ea,eb,ec,ed,ee,ef,eg,ei,ej,ek,el,em,en,eo,ep,eq,er,es,et,eu,ev,ey,ez,e0,e6,e7,e8,e9,fa,fb,fc,fe,fi,fj,fl,fn,fq,fr,fs,fx,fz,f0,f4,f5,f6,f7,ga,P,R_,S_,T_,U_,W_,X_,Y_,Z_,aa,ac,ad,af,aj,al,ao,ap,aq,ar,az,a1,a2,a3,a4,a5,a6,a7,a8,a9,ba,bb,bc,bd,be,bf,bh,bi,bl,bm,bn,bp,bq,br,bt,bv,bx,b0,b1,b3,b4,b6,b7,b8,ca,cb,cc,cd,hr,ht,hw,hx,hy,hz,h0,h1,h2,h3,h4,h5,h6,h7,h8,h9,ia,ib,ic,ih,cg],[]⟩ w)):
 Code.wp prog Gj t ⟨#[c0,c1,c2,c3,X (S ⟨B,0,U⟩) m k,c5,Si S6 (n:I),a,Si S6 (g:I),A_,W,ab,a0,Si S6 (i:I),bo,b5,ce,cf,ch,ci,cj,ck,cl,cm,cn,co,cp,cq,cr,cs,ct,cv,cw,cx,cz,c6,c7,c9,da,db,dc,dd,df,di,dj,dk,dl,dn,ds,du,dw,dz,d0,ea,eb,ec,ed,ee,ef,eg,ei,ej,ek,el,em,en,eo,ep,eq,er,es,et,eu,ev,ey,ez,e0,e6,e7,e8,e9,fa,fb,fc,fe,fi,fj,fl,fn,fq,fr,fs,fx,fz,f0,f4,f5,f6,f7,ga,P,R_,S_,T_,U_,W_,X_,Y_,Z_,aa,ac,ad,af,aj,al,ao,ap,aq,ar,az,a1,a2,a3,a4,a5,a6,a7,a8,a9,ba,bb,bc,bd,be,bf,bh,bi,bl,bm,bn,bp,bq,br,bt,bv,bx,b0,b1,b3,b4,b6,b7,b8,ca,cb,cc,cd,g3,g4,g5,g6,g7,g9,hb,hc,hd,he,hf,hg,hh,hi,hj,hk,hl,hm,hn,ho,cg],[]⟩ wr:=by
 conv=>arg 2;whnf
 have j0:(i:I)<=(d:I):=O;have j1:(i:I)<(d:I)+1:=O;have jv:(g:I)<(m:I):=O;have f:i<l g:=by rw[L_.o];exact iv
 obtain⟨g2,j⟩:=o.6;obtain⟨ua,uc,C,_⟩:=Xk<|j.4 g i b f;have p:=Y j;have M:=Y C;obtain⟨D_,y⟩:∃i6,i6=J (pQ e n g i g i):=⟨_,R⟩;have j2:D_<=2001:=oN<|FG e n g i g i;have q:=Y y;have g0:=Y (by have gb:=j.4 g i b f;rw[C,<-y]at gb;exact gb);have eG:E wr ⟨c g,i,U⟩=S (X ua D_ uc):=by rw[(j.3 g b).cell f,C,y]
 have r:=o.cell (λs hs=>M_ s hs) gz;rw[L_.o]at r;have j3:=o.4;have jl:=j.1 g b;have js:c g<Z wr.1:=O;have io:=M_ g b;have ir:B<Z wr.1:=aI wr _ r;have gt:=Y<|p.other F vY b f;have gs:=Y<|p.other L vY b f;have gv:Q ((g2 g i).ownBlock≠S B):=Y (λil=>by have:=((p.4 g i b f).lt _ il).1;omega);clear j C y;refine Y7 (λw'=>E w' ⟨B,g,U⟩=S (X (S ⟨c g,0,U⟩) (d+1) (d+1))) λig=>?_;refine X0 0 ?_;refine X0 1 ?_;refine X0 2 ?_;refine X0 3 ?_;refine X0 4 ?_;refine X0 5 ?_;refine X0 6 ?_;refine X0 7 ?_;refine X0 8 ?_;refine X0 9 ?_;refine X0 10 ?_;refine X0 11 ?_;refine X0 12 ?_;refine X0 13 ?_;refine X0 15 ?_;refine eS (rs:=[14,16]) vZ sP ?_;refine(bQ R (λK hK=>?_) (bQ R (λK hK=>?_) dY));go_simp;refine hK _ _ kP λig=>?_;clear hK
 try simp only[xX]
 refine Xs 16 λK hK=>?_;go_simp;refine hK _ _ kP λig=>?_;clear hK;rotate_left;go_simp;refine hK _ _ kP λig=>?_;clear hK
 try simp only[xX]
 refine Xs 14 λK hK=>?_;go_simp;refine hK _ _ kP λig=>?_;clear hK
 all_goals (
  refine Xs 17 λK hK=>?_;refine YI RH (g0.drew) ?_
  intro v8 w8 T gf _ ge;obtain⟨g8,c8,rfl,_,_⟩:=Xm T O;obtain⟨gd,hp,jj,x,i4⟩:=o.push (x:=(n:I)) (s:=g) (t:=i) p b f (by rw[M.o,<-q.o];exact gf) (by rw[<-q.o];exact T) (by rw[M.o,<-q.o];simpa using ge);rw[M.o,<-q.o]at hp;have q1:=x B ir io gv;have q2:=x v F.lt (oN gq.o) gt;have q3:=x u L.lt (oN gp.o) gs;have z6:=G (Xc (o:=g) q1.1) r;have z7:=G (Xc (o:=g) q1.2) r;have gg:=Y (gd.congr λs i5 _ _=>FI g1 s i5);have gh:=Y<|F.of_block q2.2;have gr:=Y<|L.of_block q3.2;clear T gf ge gd x i4 q1 q2 q3;refine hK _ _ z6 λig=>?_;clear hK;refine X0 18 ?_;refine X0 19 ?_;refine Xs 20 λK hK=>?_;go_simp;refine hK _ _ z7 λig=>?_;clear hK;refine Yq ?_;exact hN _ _ _ _ _ _ _ _ _ _ _ _ _ _ _ _ _ _ _ _ _ gg gh gr)
def NO(W:Wk)(K:N):N:=(Rg<|64*K).countP λx=>Xh W x
theorem Bh(W K):NO W (K+1)=NO W K+NZ 8 (W K):=by unfold NO NZ;have e:64*(K+1)=64*K+8*8:=O;rw[e,lI,lN,List.countP_map];congr 1;apply kK;intro i a;have:i<64:=bE.1 a;have e1:(64*K+i)/64=K:=O;have e2:(64*K+i)%64=i:=O;simp only[Function.comp,Xh,e1,e2]
theorem TB(W K):NO W K<=64*K:=aJ (mW) sP
theorem P7(f:N)(m:f=35\/f=34)(g K C W w)(l:Q (XA W))(c:Q (Cp w g K C W))(hK:K<=1000):
 Sk prog f #[Sa #[Hl g K C]] w λe r=>e=Rt (H (NO W K:N))/\Sw (Z w.1) w r:=by
 have n:=c.lt;obtain rfl|rfl:=m
 go_in
 rotate_left
 go_in
 rotate_left
 all_goals (
  go_wp2
  go_loopw [3,9] (λu i wr=>∃k:N,k<=K/\i=H k/\u=H (NO W k:N)/\Q (Sw (Z w.1) w wr)) λ_ i _=>K-(JB i).toNat
  .exact⟨0,aN,R,R,Y<|Xb Rf _⟩
  case round=>
   obtain⟨k,v,rfl,rfl,a⟩:=hrel;by_cases p:k<K
   .have t:=oB a (c.cell p) n;have q:=l k;have b:=Y<|Bh W k;have x:=TB W k;have o:=TB W<|k+1;rw[b.o]at o;generalize NO W k=c0 at*;generalize W k=j at*;have h:=Y<|AZ wr q;generalize NZ 8 j=y at*;go_wp2_with (go_at_call 80;refine YU h λs d=>?_;rw[d];clear d s)
    exact⟨⟨k+1,O,gM,by rw[b.o];go_num,a⟩,SA⟩
   have e:k=K:=O;subst e;go_wp2;go_ret
   exact⟨R,a⟩)
abbrev Kl:=@P7 35<|bC R
section
attribute [local go_sem] Oper.semAt_some
theorem qV:NO f n=J (Mq f<|64*n):=by unfold NO Mq;rw[gK]
end
abbrev As:=@Ps 77<|aZ (aZ R)
abbrev AY:=@Pu 79<|aZ (aZ R)
abbrev AF:=@P7 34<|aZ R
section
open Go.Deep
variable {H_: Type} {enc: TypeId×Uj -> H_} {P: Yh} {w: Ub} {base: N} {spare: N -> Bool} {held: Bool}
theorem Jh{a}{v:Uj}(h:E w a=S v):a.1<Z w.1:=by
 unfold World.cell? at h;split at h
 .rename_i c _ _ b;exact(aS.1 b).1
 cases h
theorem BT{α:Type}[Inhabited α]{z k:TypeId}{C s}{t:Wo}{x:DataW H_×List MemPlace}(L:P.underlying z=S (.slice k))(F:P.cellsOf k=s)(v:0<s)(B:N->N->α->Prop)(hQ:∀b o a p M,(∀j,j<s->E w (A b<|o+j)=a[j]?)->J a=s->DataW.trod enc P w base spare held p k a=S M->∃x,B b o x)(T:DataW.trod enc P w base spare held C z t=S x):
 ∃(h:Uy)(q:List α)(c:N),t=[X h (J q) c]/\J q<=maxLen/\∀i (d:i<J q),∃b o,h=S (A b o)/\b<Z w.1/\B b (o+i*s) q[i]:=by
 obtain⟨rfl,_⟩|⟨h,len,cap,m,p,V,Pl,rfl,_,hl,hm,hmm,_,n⟩:=open_slice L T;·exact⟨U,[],0,R,aN,λi d=>Sz d sP⟩
 rw[F]at n;have M_:len<=m:=by rw[hmm];split<;>omega
 have r:∀i,i<len->∃a,J a=s/\(∀j,j<s->E w ((h.add<|i*s).add j)=a[j]?)/\DataW.trod enc P w base spare held p k a=S (V i,Pl i):=λi d=>by obtain⟨a,f,e⟩:=n i O;obtain⟨_,g,l⟩:=World.cells?_some f;exact⟨a,g,l,e⟩
 obtain⟨b,o,y⟩:=h;by_cases W:len=0
 .subst W;exact⟨S ⟨b,o,y⟩,[],cap,R,aN,λi d=>Sz d sP⟩
 have K:y=U:=by obtain⟨a,f,e,_⟩:=r 0 O;have g:=e 0 v;rw[aC O]at g;simpa [Addr.add]using World.cell?_spot g
 subst K;obtain⟨B_,F_⟩:=choose_lt (α:=α) (n:=len) (p:=λi x=>b<Z w.1/\B b (o+i*s) x) (λi d=>by
  obtain⟨a,f,e,g⟩:=r i d;have l:=λj G_=>by have:=e j G_;rw[Addr.add_mid,Addr.add_mid]at this;exact this
  obtain⟨x,n⟩:=hQ b (o+i*s) a p _ l f g;have u:=l 0 v;rw[aC O]at u;exact⟨x,Jh u,n⟩)
 refine⟨S<|A b o,(Rg len).map B_,cap,sP,SB,λi d=>?_⟩;simp only[bK,gI]at d;obtain⟨f,e⟩:=F_ i d;exact⟨b,o,R,f,by simpa using e⟩
end
section
open Go.Deep
variable {H_: Type} {enc: TypeId×Uj -> H_} {w: Ub} {base: N} {spare: N -> Bool} {held: Bool}
theorem AO{a:Wo}{k:N}{v:Uj}(h:(a.drop k).take 1=[v]):a[k]?=S v:=by
 have b:((a.drop k).take 1)[0]?=S v:=by rw[h];rfl
 rw[fH O,jA]at b;simpa using b
theorem SR{a:Wo}{k m j:N}{v:Uj}(h:((a.drop k).take m)[j]?=S v)(b:j<m):a[k+j]?=S v:=by rw[fH b,jA]at h;exact h
end
end Go.Proofs.YtcncjgijikoapaaGreatDoor
