import Derived.Test.YthgmkangeikilaaGreatDoorTA
import Derived.Test.YthgmkangeikilaaGreatDoorProg
import Derived.WalkSpells
import Derived.WalkLawsBesides
import Derived.Deep.DrawnRows
import Derived.BigQuiet
import Derived.OwnWalkIn
import Derived.Deep.Slices
import Derived.Deep.RegionHeld3
namespace Go.Proofs.YthgmkangeikilaaGreatDoor
set_option maxHeartbeats 4000000
set_option maxRecDepth 100000
open _root_ renaming List.length->J,Nat->N,Int->I,Bool.true->So,List.range->Rg,Decidable.decide->Jd,rfl->R,Array.size->Z,Option.some->S,Bool.false->Sn,absurd->Sz,Option.none->U
open Value renaming int->Si,bool->Sb,string->Sg,slice->X,agg->Sa
open Go renaming Ending.returned->Rt,Calls->Sk,World.setCell->Se,results->JC,RowKit.intOf->JB,RowKit.Below->Sw,World.cell?->E,World.alloc->D,World.ownsRow->Sx,Obj.cells->Sc,IntKind.i64->S6,undef->Su
open Go.RowKit Go.Proofs.Tryz
variable{r:Bool}{t T z:I}{n m k B g c:N}{w v u:Ub}{a:Uj}{p:Uy}{M N_:Vp}{h:Vu}{d:Vv}{s:Wa}{l:Wc}{x:Wi}{f F:Wk}{y:Wo}{q:Xe}{D_:Yr}
def dB(a:I):Bool:=Jd (1<=a/\a<=8)||Jd (a=11)||Jd (a=13)
def aB(a:I):Bool:=Jd (3<=a/\a<=12)
def bB(a:I):Bool:=Jd (3<=a/\a<=7)||Jd (a=9)
def Tp(u:Bool)(x b a:I):Bool:=if u then Jd (b<=x)&&Jd (x<a)else x==0
def Wu(x:Yg):Bool:=if x.1==1 then Jd (-1000000000<=x.5)&&Jd (x.5<=1000000000)else if x.1==2 then Jd (0<=x.5)&&Jd (x.5<8)else x.5==0
def Yw(n a:I)(x:Yg):Bool :=
 decide (1<=x.1)&&Jd (x.1<=a)&&Tp (dB x.1) x.2 0 n&&Tp (aB x.1) x.a 0 n&&Tp (bB x.1) x.b 0 n&&Wu x
def Zu(n low a:I)(t:Yj):Bool :=
 decide (1<=t.1)&&Jd (t.1<=3)&&Tp (t.1 != 1) t.a 0 n&&Tp (t.1 != 3) t.3 low a&&Tp (t.1==2) t.4 low a
def Jf(n a:I)(t:Yj):Bool:=Zu n 1 a t&&!(t.1==2&&t.3==t.4)
def Yj.tg(t:Yj):Wc:=if t.1=1 then [t.3]else if t.1=2 then [t.3,t.4]else []
def XZ(a:Za):N:=(a.map λp=>1+J p.2).sum
def Ul(x:Xe):N:=1+J x.2+XZ x.1
def Xo(a:Wi):N:=(a.map Ul).sum
def AQ:List Xe->N->I->List I
 |[],_,_=>[]
 |x::xs,i,b=>(if x.3.tg.contains b then [(i:I)]else [])++AQ xs (i+1) b
def Fn.preds(F:Fn)(b:I):Wc:=AQ F.2 0 b
def XG(a:Za):Wc:=a.map (·.1)
def XI(a:Vr):Wc:=(a.filter λx=>dB x.1).map (·.2)
def Z6(x:Xe):Wc:=XG x.1++XI x.2
def BX(a:Wi):Wc:=a.flatMap Z6
def Y6(F:Fn):Bool:=Jd (0<=F.1)&&Jd (F.1<=2000)&&Jd (1<=J F.2)&&Jd (J F.2<=1000)&&Jd (Xo F.2<=4000)
def J2(F:Fn):Bool:=F.2.all λx=>Jf F.1 (J F.2) x.3
def Z0(F:Fn):Bool:=F.2.all λx=>x.2.all<|Yw F.1 10
def Jt(n:I)(k:N)(p:Ph):Bool:=Jd (1<=J p.2)&&Jd (J p.2=k)&&p.2.all λa=>Jd (0<=a)&&Jd (a<n)
def ZX(n:I)(k:N)(p:Ph):Bool:=Tp So p.1 0 n&&Jt n k p
def Zi(b:I->N->Ph->Bool)(F:Fn)(a:List Xe)(i:N):Bool :=
 match a with
 |[]=>So
 |x::a=>x.1.all (b F.1 (J (F.preds i)))&&Zi b F a (i+1)
def Ug(F:Fn):Bool:=Zi Jt F F.2 0
def KL(F:Fn):Bool:=Zi ZX F F.2 0
def F5(a:Wc)(v:I):N:=J (a.filter λx=>x==v)
def JM(F:Fn):Bool:=(Rg F.1.toNat).all λv=>F5 (BX F.2) v==1
def Ui(F:Fn):Bool:=Jd ((J (BX F.2):I)=F.1)&&(Rg F.1.toNat).all λv=>(BX F.2).contains (v:I)
def XJ(F:Fn):Bool:=Y6 F&&J2 F&&Z0 F&&KL F&&JM F
def iu(F:Fn):Bool:=Y6 F&&(Z0 F&&J2 F)&&Ug F&&Ui F
def JG(a:Za):N:=(a.map λp=>J p.2).sum
def ZZ(x:Xe):N:=J x.1+JG x.1+J x.2
def Xx(a:Wi):N:=(a.map ZZ).sum
theorem Lg{a p}:JG (a++[p])=JG a+J p.2:=by simp[JG]
theorem Vm:Xx (x++[q])=Xx x+ZZ q:=by simp[Xx]
theorem Tw{b:Type}(f:b->N)(a:List b)(k):((a.take k).map f).sum<=(a.map f).sum:=by
 induction a generalizing k with
 |nil=>simp
 |cons x a c=>cases k with
  |zero=>simp
  |succ k=>simp only[uw,eH,kX];have:=c k;omega
theorem UX(a k):Xx (a.take k)<=Xx a:=Tw _ _ _
theorem f9{k}(h:t=T):Rt (Si k t)=Rt (Si k T):=by rw[h]
theorem Xl{b}(h:r=b):Rt (Sb r)=Rt (Sb b):=by rw[h]
theorem Yp:
 Sk prog 146 #[Sb r,H t,H T,H z] w λe c=>e=Rt (Sb (Tp r t T z))/\c=w:=by
 cases r
 .go_in
  go_wp2;go_ret;exact⟨R,R⟩
 by_cases a:T<=t<;>by_cases b:t<z
 all_goals
  go_in
  go_wp2;go_ret;exact⟨by simp[Tp,a,b],R⟩
theorem X7{b:Type}{a:List b}(h:n<J a):a.take (n+1)=a.take n++[a[n]]:=bN h
def FV(a:Za):Prop:=∀p∈a,J p.2<=1048576
def Fv(a:Wi):Prop:=∀x∈a,J x.1<=1048576/\J x.2<=1048576/\FV x.1
section
variable{w w1:Ub}{L B b t N_:N}{f:N->Uj}
theorem Jp(a:w.rowIs b t N_ f){o m}(h:o+m<=N_):w.there b o m:=λj c=>⟨by rw[a.cell O];rfl,a.frozen _⟩
theorem YA.refl(L B w):YA L B w w:=λ_ _ _=>R
theorem YA.setCell(h:YA L B w w1){p}(d:p.1<L\/B<=p.1)(v:Uj):YA L B w (Se w1 p v):=λk a c=>by rw[cY O];exact h k a c
theorem Xd{w:Ub}{p}{v:Uj}:Z (Se w p v).1=Z w.1:=SH
end
theorem RH:(prog.info? 2).map (λi=>(i.8,i.3,i.4))=S (S<|H 0,1,8):=vZ
theorem qp:F5 l t=l.count t:=by unfold F5;rw[List.count,gK]
theorem Ed:∀l:Wc,J l=n->(∀v:N,v<n->(v:I)∈l)->(∀d∈l,0<=d/\d<n)/\∀v:N,v<n->l.count (v:I)=1:=by
 induction n with
 |zero=>
  intro l e _;have:l=[]:=iE e;subst this;exact⟨λd a=>(eA a).elim,λv b=>Sz b O⟩
 |succ n p=>
  intro l e b;have f:=b n O;have m:J (l.erase (n:I))=n:=by rw[fP f];omega
  have o:∀v:N,v<n->(v:I)∈l.erase (n:I):=λv i=>(iF O).2 (b v O);let⟨c,j⟩:=p _ m o;have g:=mZ f;refine⟨λd a=>?_,λv i=>?_⟩
  .rcases cH.1 (g.mem_iff.1 a)with rfl|a;·omega
   have:=c d a;omega
  rw[g.count_eq,List.count_cons];by_cases h:v=n
  .subst h;have:(l.erase (v:I)).count (v:I)=0:=List.count_eq_zero.2 (λk=>by have:=c _ k;omega);simp[this]
  rw[j v O];have:((n:I)==(v:I))=Sn:=SB
  simp[this]
theorem BF(n:N):∀l:Wc,(∀d∈l,0<=d/\d<n)->(∀v:N,v<n->l.count (v:I)=1)->J l=n/\∀v:N,v<n->(v:I)∈l:=by
 induction n with
 |zero=>
  intro l c _;have:l=[]:=List.eq_nil_iff_forall_not_mem.2 (λd b=>by have:=c d b;omega);subst this;exact⟨R,λv k=>Sz k O⟩
 |succ n m=>
  intro l c a;have e:=kE.1 (by rw[a n O];omega);have p:=mZ e;have j:(l.erase (n:I)).count (n:I)=0:=by rw[List.count_erase_self,a n O]
  have g:∀d∈l.erase (n:I),0<=d/\d<n:=λd b=>by
   have h:=c d<|List.mem_of_mem_erase b;have o:d≠n:=λf=>by subst f;exact Sz b<|List.count_eq_zero.1 j
   omega
  have i:∀v:N,v<n->(l.erase (n:I)).count (v:I)=1:=λv h=>by rw[List.count_erase_of_ne O];exact a v O
  let⟨q,r⟩:=m _ g i;refine⟨by have:=fP e;have:0<J l:=eJ e;omega,λv h=>?_⟩;exact kE.1<|by rw[a v h];omega
def VF(n:I)(a:Wi):Bool:=a.all λx=>x.1.all λp=>Tp So p.1 0 n
theorem vw{a:Type}(p q:a->Bool){l:List a}:l.all (λx=>p x&&q x)=(l.all p&&l.all q):=by
 induction l with
 |nil=>rfl
 |cons x l b=>simp only[vi,b];cases p x<;>cases q x<;>cases l.all p<;>simp
theorem Aw{F}:∀(a:Wi)(i:N),Zi ZX F a i=(VF F.1 a&&Zi Jt F a i):=by
 intro a
 induction a with
 |nil=>intro i;rfl
 |cons x a b=>
  intro i;simp only[Zi,VF,vi,b];have:x.1.all (ZX F.1 (J (F.preds ↑i)))=(x.1.all (λp=>Tp So p.1 0 F.1)&&x.1.all (Jt F.1 (J (F.preds ↑i)))):=vw _ _;rw[this];cases x.1.all (λp=>Tp So p.1 0 F.1)<;>cases x.1.all (Jt F.1 (J (F.preds ↑i)))<;>simp
theorem BO{F}(e:Z0 F=So):(VF F.1 F.2=So↔∀d∈BX F.2,0<=d/\d<F.1):=by
 unfold VF BX;simp only[dV,bV,Z6,XG,XI,bU,aY,fG,Tp,gG,bY,bD];constructor
 .rintro h d⟨x,a,⟨p,b,rfl⟩|⟨y,⟨f,c⟩,rfl⟩⟩;·exact h x a p b
  have:=dV.1 (dV.1 e x a) y f;simp only[Yw,c,Tp,gG,bY,bD]at this;omega
 intro h x a p b;exact h _ ⟨x,a,bC ⟨p,b,R⟩⟩
theorem Bz{F}(c:0<=F.1)(d:Z0 F=So):(VF F.1 F.2&&JM F)=Ui F:=by
 rw[eQ];let⟨n,e⟩:=bX c;rw[bY,BO d];unfold JM Ui;rw[e];simp only[dV,bE,dM,iA,bY,bD,eY,qp];constructor
 .rintro⟨b,a⟩;let⟨g,f⟩:=BF n _ b a;exact⟨O,f⟩
 rintro⟨b,a⟩;exact Ed _ O a
theorem WY(F):XJ F=iu F:=by
 unfold XJ iu KL Ug;rw[Aw];cases hs:Y6 F;·simp
 cases hi:Z0 F;·simp
 cases ht:J2 F;·simp
 have a:0<=F.1:=by simp only[Y6,bY,bD]at hs;omega
 have:=Bz a hi;rw[<-this];cases VF F.1 F.2<;>cases Zi Jt F F.2 0<;>simp
theorem YL{P:Program}{fn:Func}{b:Ending->World->Prop}{a:Act}{w:World}{v:Value}{rs}(hR:b (Rt v) w)(he:fn.results=rs:=by exact rfl)(hr:(JC {fn with results:=rs} a.tmps).run P w=.ok v w:=by simp[results,go_sem, *])(hd:a.defers=[]:=by exact rfl):bodyPost P fn b .ret a w:=by subst he;exact ⟨hd,v,hr,hR⟩
theorem YU{P:Program}{f a w v}{c:World->Prop}{d:Ending->World->Prop}(h:Sk P f a w λe h=>e=Rt v/\c h)(k:∀h,c h->d (Rt v) h):Sk P f a w d:=h.mono λ_ h⟨e,b⟩=>e▸k h b
theorem XM{p q:Prop}(h:q)(k:q->p:=by intro h;repeat' (first|with_reducible exact h|with_reducible refine Below.setCell ?_ ?_ _|with_reducible refine Xb ?_ _|exact aA)):p:=k h
def Kz(a:I):ByteArray :=
 if a=1 then ⟨#[100,105]⟩else if a=2 then ⟨#[100,105]⟩else if 3<=a/\a<=7 then ⟨#[100,97,98]⟩else if a=8 then ⟨#[100,97]⟩else if a=11 then ⟨#[100,97]⟩
 else if a=9 then ⟨#[97,98]⟩else if a=10 then ⟨#[97]⟩else if a=12 then ⟨#[97]⟩else if a=13 then ⟨#[100]⟩else ⟨#[]⟩
theorem BA{a b}(h:a=b):Rt (Sg a)=Rt (Sg b):=by rw[h]
theorem qX(a)(w:Ub):
 Sk prog 85 #[H a] w λe d=>e=Rt (Sg (Kz a))/\d=w:=by
 by_cases h:1<=a/\a<=13
 .have b:a=1\/a=2\/a=3\/a=4\/a=5\/a=6\/a=7\/a=8\/a=9\/a=10\/a=11\/a=12\/a=13:=O;obtain rfl|rfl|rfl|rfl|rfl|rfl|rfl|rfl|rfl|rfl|rfl|rfl|rfl:=b
  all_goals
   go_in
   go_wp2;go_ret;exact⟨R,R⟩
 have f:(a==1)=Sn:=SB
 have l:(a==2)=Sn:=SB
 have m:(a==3)=Sn:=SB
 have n:(a==4)=Sn:=SB
 have o:(a==5)=Sn:=SB
 have p:(a==6)=Sn:=SB
 have q:(a==7)=Sn:=SB
 have r:(a==8)=Sn:=SB
 have s:(a==9)=Sn:=SB
 have g:(a==10)=Sn:=SB
 have i:(a==11)=Sn:=SB
 have j:(a==12)=Sn:=SB
 have k:(a==13)=Sn:=SB
 have c:Q (Kz a=⟨#[]⟩):=by show _=_;unfold Kz;rw[aM O,aM O,aM O,aM O,aM O,aM O,aM O,aM O,aM O]
 go_in
 go_wp2;go_ret;exact⟨BA c.symm,R⟩
def iq(s:ByteArray)(f:I):Bool:=s.1.1.any λc=>(c.toNat:I)==f
theorem DK{s}(a:n<s.size)(h:(s[n].toNat:I)=t):iq s t=So:=by unfold iq;rw[tj];exact⟨s[n],by rw[nB];exact Array.getElem_mem a,by simp[h]⟩
theorem EE{s}(h:∀j (a:j<s.size),(s[j].toNat:I)≠t):iq s t=Sn:=by unfold iq;rw[rT];intro c b;obtain⟨j,a,rfl⟩:=Array.mem_iff_getElem.1<|nB.1 b;have:=h j a;rw[iA];exact this
theorem q7(a):(Kz a).size<=3:=by
 unfold Kz
 repeat (split<;>try decide)
theorem U9:
 Sk prog 51 #[H t,Si .u8 T] w λe n=>e=Rt (Sb (iq (Kz t) T))/\n=w:=by
 go_in
 go_wp2_with fail
 refine YU (qX _ _) ?_;rintro q rfl;have p:=q7 t;generalize f:Kz t=s at*;have d:=Y f;clear f;go_wp2
 go_loop [6] (λi=>∃k:N,k<=s.size/\i=H k/\Q (∀j (b:j<s.size),j<k->(s[j].toNat:I)≠T)) λi=>s.size-(JB i).toNat
 .exact⟨0,aN,R,λj b h=>Sz h O⟩
 obtain⟨k,o,rfl,g⟩:=hrel;by_cases m:k<s.size
 .by_cases a:(s[k].toNat:I)=T
  .have l:((s[k].toNat:I)==T)=So:=by simp[a]
   have c:=Y a;clear a;go_wp2;go_ret;exact⟨Xl (by rw[Xw d];exact(DK m c).symm),R⟩
  have l:((s[k].toNat:I)==T)=Sn:=by simp[a]
  have c:=Y a;clear a;go_wp2
  go_round
  .exact⟨k+1,O,gM,λj b h=>if e:j=k then by subst e;exact c else g j b O⟩
  simp[JB];omega
 go_wp2;go_ret;exact⟨Xl (by rw[Xw d];exact(EE λj b=>g j b O).symm),R⟩
theorem zW50{p: Prop}(h: p := by obtain rfl|rfl|rfl|rfl|rfl|rfl|rfl|rfl|rfl|rfl|rfl|rfl|rfl:=a<;>rfl): p := h
theorem xj:iq (Kz t) 100=dB t:=by
 by_cases h:1<=t/\t<=13
 .have a:t=1\/t=2\/t=3\/t=4\/t=5\/t=6\/t=7\/t=8\/t=9\/t=10\/t=11\/t=12\/t=13:=O;exact zW50
 unfold Kz;rw[aM O,aM O,aM O,aM O,aM O,aM O,aM O,aM O,aM O];simp only[iq,dB];rw[dJ O,dJ O,dJ O];rfl
theorem xh:iq (Kz t) 97=aB t:=by
 by_cases h:1<=t/\t<=13
 .have a:t=1\/t=2\/t=3\/t=4\/t=5\/t=6\/t=7\/t=8\/t=9\/t=10\/t=11\/t=12\/t=13:=O;exact zW50
 unfold Kz;rw[aM O,aM O,aM O,aM O,aM O,aM O,aM O,aM O,aM O];simp only[iq,aB];rw[dJ O];rfl
theorem xg:iq (Kz t) 98=bB t:=by
 by_cases h:1<=t/\t<=13
 .have a:t=1\/t=2\/t=3\/t=4\/t=5\/t=6\/t=7\/t=8\/t=9\/t=10\/t=11\/t=12\/t=13:=O;exact zW50
 unfold Kz;rw[aM O,aM O,aM O,aM O,aM O,aM O,aM O,aM O,aM O];simp only[iq,bB];rw[dJ O,dJ O];rfl
theorem nZ(a)(w:Ub):Sk prog 51 #[H a,Si .u8 100] w λe b=>e=Rt (Sb (dB a))/\b=w:=xj▸U9
theorem vG(a)(w:Ub):Sk prog 51 #[H a,Si .u8 97] w λe b=>e=Rt (Sb (aB a))/\b=w:=xh▸U9
theorem vU(a)(w:Ub):Sk prog 51 #[H a,Si .u8 98] w λe b=>e=Rt (Sb (bB a))/\b=w:=xg▸U9
theorem ZO(t:Yj)(w:Ub):
 Sk prog 103 #[Sa #[H t.1,H t.a,H t.3,H t.4]] w λj f=>∃g c,j=Rt (X g (J t.tg) c)/\Sw (Z w.1) w f/\Xf f (Z w.1) (Z f.1) g t.tg:=by
 let⟨b,l,tg,k⟩:=t;by_cases d:b=1
 .subst d
  go_in
  go_wp2;go_ret;refine⟨_,_,R,Xb (Xb Rf _) _,λi a=>?_⟩;simp[Yj.tg]at a;subst a;exact⟨_,_,R,⟨sP,sP⟩,by simp[Yj.tg]⟩
 by_cases e:b=2
 .subst e
  go_in
  go_wp2;go_ret;refine⟨_,_,R,Xb (Xb Rf _) _,λi a=>?_⟩;simp[Yj.tg]at a
  match i,a with
  |0,_=>exact⟨_,_,R,⟨sP,sP⟩,by simp[Yj.tg]⟩
  |1,_=>exact⟨_,_,R,⟨sP,sP⟩,by simp[Yj.tg]⟩
 have e1:(b==1)=Sn:=by simp[d]
 have e2:(b==2)=Sn:=by simp[e]
 have h:(Yj.tg ⟨b,l,tg,k⟩)=[]:=by simp[Yj.tg,d,e]
 rw[h]
 go_in
 go_wp2;go_ret;exact⟨_,_,R,Xb (Xb Rf _) _,λi a=>Sz a sP⟩
def To(b a x:I):Bool:=Jd (b<=x)&&Jd (x<a)
theorem Ep{a tg b}:Zu t T z ⟨1,a,tg,b⟩=(a==0&&To T z tg&&b==0):=by simp[Zu,Tp,To]
theorem ES{a tg b}:Zu t T z ⟨2,a,tg,b⟩=(To 0 t a&&To T z tg&&To T z b):=by simp[Zu,Tp,To]
theorem EO{a tg b}:Zu t T z ⟨3,a,tg,b⟩=(To 0 t a&&tg==0&&b==0):=by simp[Zu,Tp,To]
theorem ug{k a tg b}(h:¬(1<=k/\k<=3)):Zu t T z ⟨k,a,tg,b⟩=Sn:=by
 unfold Zu;by_cases c:1<=k;·rw[dJ (p:=k<=3) O];simp
 rw[dJ (p:=1<=k) c];simp
theorem XY{b:Type}{p:b->Bool}{a}(c:n<J a)(h:(a.take n).all p=So)(d:p a[n]=So):(a.take<|n+1).all p=So:=by rw[X7 c,sS,h];simp[d]
theorem JN{a:Type}{p:a->Bool}{xs}(b:k<J xs)(c:p xs[k]=Sn):xs.all p=Sn:=by rw[lZ];exact⟨_,aH b,by simp[c]⟩
theorem YE{a:Type}{p:a->Bool}{xs}(b:J xs<=k)(h:(xs.take k).all p=So):xs.all p=So:=by rwa[aW b]at h
theorem zW6b0{p: Prop}(h: p := by
  go_in
  go_wp2_with (go_at_call 103;refine(ZO ⟨_,_,_,_⟩ _).mono ?_;rintro l x⟨s,c,rfl,g,b⟩;rw[Xw m]at b |-;have j:=Y b;clear b)
  go_loop [10] (λi=>∃k:N,k<=J a/\i=H k/\Q ((a.take k).all (To low e)=So)) λi=>J a-(intOf i).toNat
  .exact⟨0,aN,R,R⟩
  case round=>
   obtain⟨k,u,rfl,f⟩:=hrel;by_cases d:k<J a
   .obtain⟨y,B,rfl,_,n⟩:=j k d;by_cases o:low<=a[k]/\a[k]<e
    .let⟨p,q⟩:=o;go_wp2
     go_round
     .exact⟨k+1,O,gM,XY d f<|by simp[To,p,q]⟩
     simp[intOf];omega
    go_wp2
    all_goals
     go_ret;exact⟨Xl (by rw[<-h.o];exact(JN d<|by unfold To;rw[jD,fC,fC];omega).symm),Xg (Xb (Below.refl _ _) _) g⟩
   go_wp2;go_ret
   exact⟨Xl (by rw[<-h.o];exact(YE O f).symm),Xg (Xb (Below.refl _ _) _) g⟩): p := h
theorem Kj{tg v low e}(a)(m:Q ((Yj.mk t T tg z).tg=a))(K:J a<=2)(L:1<=t)(F:t<=3)(c1:Q (t=1->T=0/\z=0))(c3:Q (t=3->tg=0/\z=0))(c2:Q (t≠1->0<=T/\T<v))(h:Q (a.all (To low e)=r)):
 Sk prog 57 #[Sa #[H t,H T,H tg,H z],H v,H low,H e] w λl C=>l=Rt (Sb r)/\Sw (Z w.1) w C:=by
 have n:t=1\/t=2\/t=3:=O;have M:=Y K;obtain rfl|rfl|rfl:=n
 .obtain⟨rfl,rfl⟩:=c1 R;exact zW6b0
 .let⟨d1,d2⟩:=c2 vY;exact zW6b0
 let⟨d1,d2⟩:=c2 vY;obtain⟨rfl,rfl⟩:=c3 R
 go_in
 go_wp2_with (go_at_call 103;refine(ZO ⟨_,_,_,_⟩ _).mono ?_;rintro l x⟨s,c,rfl,g,b⟩;rw[Xw m]at b |-;have j:=Y b;clear b)
 go_loop [10] (λi=>∃k:N,k<=J a/\i=H k/\Q ((a.take k).all (To low e)=So)) λi=>J a-(JB i).toNat
 .exact⟨0,aN,R,R⟩
 obtain⟨k,u,rfl,f⟩:=hrel;by_cases d:k<J a
 .have:=m.o;simp[Yj.tg]at this;subst this;simp at d
 go_wp2;go_ret;exact⟨Xl (by rw[<-h.o];exact(YE O f).symm),Xg (Xb Rf _) g⟩
theorem zW6b1{p: Prop}(h: p := by
  go_in
  go_wp2;go_ret
  exact⟨R,Xb (Below.refl _ _) _⟩): p := h
theorem zW6b2{p: Prop}(h: p := by
  go_in
  go_wp2
  all_goals
   go_ret
   exact⟨R,Xb (Below.refl _ _) _⟩): p := h
theorem Ju{tg n low e}(h:¬(1<=t/\t<=3)\/(t=1/\¬(T=0/\z=0))\/(t=3/\¬(tg=0/\z=0))\/(1<=t/\t<=3/\t≠1/\¬(0<=T/\T<n))):
 Sk prog 57 #[Sa #[H t,H T,H tg,H z],H n,H low,H e] w λf i=>f=Rt (Sb Sn)/\Sw (Z w.1) w i:=by
 by_cases c:1<=t/\t<=3
 .have g:t=1\/t=2\/t=3:=O;obtain rfl|rfl|rfl:=g
  .have a:¬(T=0/\z=0):=O;by_cases b:T=0
   .subst b;have d:(z != 0)=So:=by simp at a;simp[a]
    exact zW6b1
   have d:(T != 0)=So:=by simp[b]
   exact zW6b1
  .have a:T<0\/n<=T:=O;exact zW6b2
  by_cases a:tg=0/\z=0
  .obtain⟨rfl,rfl⟩:=a;have a:T<0\/n<=T:=O;exact zW6b2
  clear h c;by_cases b:tg=0
  .subst b;have d:(z != 0)=So:=by simp at a;simp[a]
   exact zW6b1
  have d:(tg != 0)=So:=by simp[b]
  exact zW6b1
 have a:t<1\/3<t:=O;exact zW6b2
theorem KS{tg n low b}:
 Sk prog 57 #[Sa #[H t,H T,H tg,H z],H n,H low,H b] w λe g=>e=Rt (Sb (Zu n low b ⟨t,T,tg,z⟩))/\Sw (Z w.1) w g:=by
 by_cases d:1<=t/\t<=3
 .have f:t=1\/t=2\/t=3:=O;obtain rfl|rfl|rfl:=f
  .rw[Ep];by_cases h:T=0/\z=0;·exact Kj [tg] R sP vY vY (λ_=>h) (λe=>O) (λe=>Sz R e) (by obtain⟨rfl,rfl⟩:=h;show _=_;simp)
   have e:(T==0&&To low b tg&&z==0)=Sn:=by
    by_cases a:T=0
    .have:z≠0:=λe=>h ⟨a,e⟩;simp[this]
    simp[a]
   rw[e];exact Ju<|aZ (bC ⟨R,h⟩)
  .rw[ES];by_cases h:0<=T/\T<n;·exact Kj [tg,z] R sP vY vY (λe=>O) (λe=>O) (λ_=>h) (by show _=_;simp[To,h.1,h.2])
   have e:To 0 n T=Sn:=by unfold To;rw[jD,fC,fC];omega
   rw[e];exact Ju O
  rw[EO];by_cases h:0<=T/\T<n
  .by_cases c:tg=0/\z=0;·exact Kj [] R sP vY vY (λe=>O) (λ_=>c) (λ_=>h) (by obtain⟨rfl,rfl⟩:=c;show _=_;simp[To,h.1,h.2])
   have e:(To 0 n T&&tg==0&&z==0)=Sn:=by
    by_cases a:tg=0
    .have:z≠0:=λe=>c ⟨a,e⟩;simp[this]
    simp[a]
   rw[e];exact Ju O
  have e:To 0 n T=Sn:=by unfold To;rw[jD,fC,fC];omega
  rw[e];exact Ju O
 rw[ug d];exact Ju<|bC d
section
variable{P:Program}{w:World}{ops:Array Oper}{rest:List Oper}{o:Oper}{a:Act}{Q_:Exit->Act->World->Prop}{s x:Operand}{t e base size bytes n m c g:N}{z v:Value}{xs news:List Value}{ad:Addr}{f:N×N}
theorem YB(b:(P.info? e).map (λi=>(i.8,i.3,i.4))=S (S z,size,bytes))(hown:Sx w base e size v n xs)(hn:∀j u,news[j]?=S u->E w (ad.add j)=S u)(h1:∀u∈news,u.oneCell'=So)(h:Q (∀v' w',Sx w' base e size v' (n+m) (xs++news)->w.grownBy w' v.ownBlock->(v'=X U 0 0↔v=X U 0 0/\m=0)->(v'.ownBlock=v.ownBlock\/v'.ownBlock=S (Z w.heap))->wpList P ops Q_ rest (a.put o.dst v') w'))(hg:o.guard=U:=by rfl)(ho:o.op=.call {callee:=.builtin .append,args:=#[s,x],argTypes:=#[t,t]}:=by exact rfl)(es:a.eval s=v:=by exact rfl)(ex:a.eval x=X (S ad) m c:=by exact rfl)(hl:J news=m*size:=by rfl)(hb:(n+m)*bytes<=140737488355328:=by first|omega|(dsimp only;omega))(hs:base<=Z w.heap:=by first|omega|(simp;omega)|simp)(ht:P.underlying t=S (.slice e):=by kernel_rfl)(hz:Z z.cells=size:=by rfl)(hp:0<size/\0<bytes:=by decide):wpList P ops Q_ (o::rest) a w:=by
 obtain⟨i,i1,i2,i3,i4⟩:=fX b
 have k:n+m<=maxLen:=by
  have:=Nat.le_mul_of_pos_right (n+m) hp.2;unfold maxLen;omega
 exact bT w hg s x t ho base e i z size bytes ht i1 i2 i3 i4 hz hp.1 v n xs es hown ad m c news ex hl hn h1 k hb hs h
theorem YC(b:(P.info? e).map (λi=>(i.8,i.3,i.4))=S (S z,size,bytes))(hown:Sx w base e size v n xs)(h:Q (∀v' w',Sx w' base e size v' (n+1) (xs++news)->(D w (Sc news.toArray m f)).grownBy w' v.ownBlock->(v'=X U 0 0↔v=X U 0 0/\1=0)->(v'.ownBlock=v.ownBlock\/v'.ownBlock=S (Z (D w (Sc news.toArray m f)).heap))->wpList P ops Q_ rest (a.put o.dst v') w'))(hb:(n+1)*bytes<=140737488355328:=by first|omega|(dsimp only;omega))(hs:base<=Z w.heap:=by first|omega|(simp;omega)|simp)(hl:J news=1*size:=by rfl)(hg:o.guard=U:=by rfl)(ho:o.op=.call {callee:=.builtin .append,args:=#[s,x],argTypes:=#[t,t]}:=by exact rfl)(es:a.eval s=v:=by exact rfl)(ex:a.eval x=X (S ⟨g,0,U⟩) 1 1:=by exact rfl)(eg:g=Z w.heap:=by first|rfl|simp)(h1:(news.all λu=>u.oneCell')=So:=by rfl)(ht:P.underlying t=S (.slice e):=by kernel_rfl)(hz:Z z.cells=size:=by rfl)(hp:0<size/\0<bytes:=by decide):wpList P ops Q_ (o::rest) a (D w (Sc news.toArray m f)):=by
 subst eg;exact YB b (hown.alloc _) (XE (l9 _ _)) (List.all_eq_true.1 h1) h hg ho es ex hl hb (by simp;omega) ht hz hp
end
def Cg(a:Wc)(x:I):Bool:=a.contains x
theorem qu(c x)(ha:Q (Xf w m k p l))(r:Q (n=J l))(z:n<=100000000):
 Sk prog 91 #[X p n c,H x] w λe t=>e=Rt (Sb (Cg l x))/\t=w:=by
 go_in
 go_wp2
 go_loop [5] (λi=>∃a:N,a<=n/\i=H a/\Q (∀j (h:j<J l),j<a->l[j]≠x)) λi=>n-(JB i).toNat
 .exact⟨0,aN,R,λj d h=>Sz h O⟩
 obtain⟨a,v,rfl,q⟩:=hrel;by_cases y:a<n
 .have o:a<J l:=oN r.o;obtain⟨u,C,rfl,_,g⟩:=ha a o;by_cases b:l[a]=x
  .have s:(l[a]==x)=So:=by simp[b]
   have f:=Y b;go_wp2;go_ret;exact⟨Xl (by unfold Cg;rw[nJ,eY,<-f.o];exact aH o),R⟩
  have s:(l[a]==x)=Sn:=by simp[b]
  have f:=Y b;go_wp2
  go_round
  .exact⟨a+1,O,gM,λj d h=>if e:j=a then by subst e;exact f else q j d O⟩
  simp[JB];omega
 go_wp2;go_ret
 exact⟨Xl (by rw[nJ,lY];intro g;let⟨j,d,e⟩:=bR (eY.1<|show l.contains x=So from g);exact q j d (oN r.o) e),R⟩
theorem YF(b c x a L B w)(ha:Q (Xf w L B b a))(d:Q (n=J a))(g:n<=1048576):
 Sk prog 91 #[X b n c,H x] w λe f=>e=Rt (Sb (Cg a x))/\f=w :=
 qu c x ha d O
theorem Bi(t:Yj)(b):t.tg.contains b=So↔(t.1=1/\t.3=b)\/(t.1=2/\(t.3=b\/t.4=b)):=by
 unfold Yj.tg;by_cases a:t.1=1
 .rw[aU a];simp only[a,true_and,eY,cS];constructor;·intro h;exact bC h.symm
  rintro(h|⟨h,_⟩);·exact h.symm
  omega
 rw[aM a];by_cases c:t.1=2
 .rw[aU c];simp only[c,true_and,eY,cH,eA,lL];constructor
  .rintro(h|h);·exact aZ<|bC h.symm
   exact aZ<|aZ h.symm
  rintro(⟨h,_⟩|h|h);·omega
  .exact bC h.symm
  exact aZ h.symm
 rw[aM c];simp[a,c]
theorem ZK(x:Xe)(b):∀(a:Wi)(i:N),AQ (a++[x]) i b=AQ a i b++(if x.3.tg.contains b then [((i+J a:N):I)]else [])
 |[],i=>by simp[AQ]
 |y::ys,i=>by simp only[cW,AQ];have e:i+1+J ys=i+(J ys+1):=O;rw[ZK x b ys<|i+1,cK,e,bA]
theorem YO(b):∀(a:Wi)(i:N),J (AQ a i b)<=J a
 |[],_=>aA
 |y::ys,i=>by simp only[AQ,aQ,bA];have:=YO b ys<|i+1;split<;>simp<;>omega
theorem Xk{xs:Wc}(h:Sx w n m 1 a k (xs.map<|Si S6)):∃e c,a=X e (J xs) c/\Xf w n (Z w.1) e xs:=by
 obtain⟨d,h|⟨o,r,l,rfl,p,g,s,_,q,j⟩⟩:=h
 .obtain⟨rfl,rfl⟩:=h;have:xs=[]:=by simpa using d
  subst this;exact⟨_,_,R,λi b=>Sz b sP⟩
 simp only[iN,bK]at d q j;subst d;refine⟨_,_,R,λi b=>⟨o,0,R,⟨p,?_⟩,?_⟩⟩;·exact(aS.1 g).1
 have f:(l.1.take (J xs))[i]?=S (H xs[i]):=by rw[j];simp[b]
 rw[fH b]at f;simp only[World.cell?,g,aV];simpa using f
theorem YJ(c:w.grownBy v a.ownBlock)(d:Sx w n m k a B y){b}(f:b<n)(e:b<Z w.1):v.1[b]?=w.1[b]? :=
 c.5 b e λh=>by have:=(d.lt b h.symm).1;omega
theorem Xy(h:Sw n w v)(b:v.grownBy u a.ownBlock)(d:Sx v m k B a g y)(i:n<=m)(e:n<=Z v.1):Sw n w u :=
 h.grown b e λf c=>by have:=(d.lt f c).1;omega
theorem K5(w:Ub)(o):Sx (D (D w o) (Sc #[] 2)) (Z w.1+1) 2 1 (X (S ⟨Z w.1+1,0,U⟩) 0 0) 0 []:=by have h:=eI (base:=Z w.1+1) (e:=2) (size:=1) (D w o) #[] 0 sP sP R;rw[aO]at h;exact h
theorem Yl:(l++[t]).map (Si S6)=l.map (Si S6)++[H t]:=sP
theorem ZE(V c q)(ha:Q (Xp w m k p x))(F:Q (n=J x))(hn:n<=1048576)(L:k<=Z w.1):
 Sk prog 89 #[Sa #[H V,X p n c],H q] w λl y=>∃z M,l=Rt (X z (J (AQ x 0 q)) M)/\Sw (Z w.1) w y/\Xf y (Z w.1) (Z y.1) z (AQ x 0 q):=by
 go_in
 go_wp2
 go_loopw [5,6] (λv u wr=>∃a:N,a<=n/\u=H a/\Sw (Z w.1) w wr/\Z w.1<Z wr.1/\E wr (A (Z w.1) 1)=S (X p n c)/\Sx wr (Z w.1+1) 2 1 v (J (AQ (x.take a) 0 q)) ((AQ (x.take a) 0 q).map (Si S6))) λ_ u _=>n-(JB u).toNat
 .exact⟨0,aN,R,Xb (Xb Rf _) _,SB,sP,K5 _ _⟩
 obtain⟨a,hk,rfl,i,K,B,g⟩:=hrel;by_cases aa:a<n
 .have t:a<J x:=oN F.o
  obtain⟨Y_,ac,rfl,⟨_,Z_⟩,P⟩:=ha a t;let⟨pa,pc,ia,ic,_,_,⟨e2,e3,e4,e5⟩,_,_⟩:=P.keep (i.mono L) O;have f:Q (AQ (x.take<|a+1) 0 q=AQ (x.take a) 0 q++(if x[a].3.tg.contains q then [(a:I)]else [])):=by show _=_;rw[X7 t,ZK];simp[jZ<|dU t]
  have ab:J (AQ (x.take a) 0 q)<=1048576:=by have:=YO q (x.take a) 0;simp at this;omega
  have d:=Y g;have h:=Y<|Bi x[a].3 q;generalize x[a]=e at*;by_cases b:e.3.tg.contains q=So
  .have j:Q (AQ (x.take<|a+1) 0 q=AQ (x.take a) 0 q++[(a:I)]):=by have:=f.o;rw[aU b]at this;exact this
   have o:=h.1 b;generalize AQ (x.take a) 0 q=T at*;have r:(e.3.1=1/\e.3.3=q)\/(e.3.1=2/\e.3.3=q)\/(e.3.1=2/\e.3.3≠q/\e.3.4=q):=O;obtain⟨d1,d2⟩|⟨d1,d2⟩|⟨d1,d3,d2⟩:=r
   all_goals
    go_wp2_with (at_builtin;refine YC RH (d.alloc _) ?_)
    intro v1 w1 C s _ _;have W:=Y C;go_wp2;have K_:=Xy (Xb (Xb i _) _) s ((d.alloc _).alloc _) O SB;have L_:=YJ s ((d.alloc _).alloc _) (b:=Z w.1) O SB;have O_:=s.4;simp at O_;exact⟨⟨a+1,O,gM,K_,O,G (Xc L_) (oB (Xb (Xb (dC (Z wr.1) wr) _) _) B K),by rw[j.o,Yl];simpa using W.o⟩,SA⟩
  have j:Q (AQ (x.take<|a+1) 0 q=AQ (x.take a) 0 q):=by have:=f.o;rw[aM b,fF]at this;exact this
  have o:¬((e.3.1=1/\e.3.3=q)\/(e.3.1=2/\(e.3.3=q\/e.3.4=q))):=λI_=>b<|h.2 I_
  generalize AQ (x.take a) 0 q=T at*;have r:(e.3.1=1/\(e.3.3==q)=Sn)\/(e.3.1=2/\(e.3.3==q)=Sn/\(e.3.4==q)=Sn)\/((e.3.1==1)=Sn/\(e.3.1==2)=Sn):=by simp only[iS];omega
  obtain⟨d1,d2⟩|⟨d1,d2,d3⟩|⟨d1,d2⟩:=r
  all_goals
   go_wp2;exact⟨⟨a+1,O,gM,Xb i _,SB,oB (Xb (dC (Z wr.1) wr) _) B K,by rw[j.o];exact d.alloc _⟩,SA⟩
 go_wp2;go_ret;have l:=aW (l:=x) (i:=a) (oN F.o);rw[l]at g;obtain⟨W_,c1,rfl,N_⟩:=Xk g;exact⟨_,_,R,i,N_.mono O<|aA⟩
section
section
variable{F:Fence}{n:N}{P:Yh}{ops:Array Oper}{Q_:Exit->Act->Ub->Prop}{md:Region.Mode}{S_:Ub->Prop}
def WQ(ops:Array Oper):Bool:=ops.1.all λo=>match o.2 with|.defer _=>Sn|_=>So
theorem KN(h:WQ ops=So){j:N}{o}(hj:ops[j]?=S o):∀c,o.2≠.defer c:=λc e=>by
 have hm:o∈ops.1:=by obtain⟨hlt,rfl⟩:=aS.1 hj;simp
 have:=dV.1 h o hm;rw[e]at this;cases this
def YG(P:Yh)(ops:Array Oper)(S_:Vy)(o:Oper)(v:Uj)(a:Act):Prop:=YieldsIf P ops S_ o v a/\∀w,o.about P w a.eval=U
theorem YG.wpOpIn{i:N}{o:Oper}{v:Uj}{a:Act}(hd:∀c,o.2≠.defer c)(hi:ops[i]?=S o)(hy:YG P ops S_ o v a){K:Tf}{w:Ub}(hS:S_ w)(h:K (a.put o.1 v) w):wpOpIn F n P ops Q_ i K a w:=by
 unfold Go.wpOpIn;simp only[hi];have hab:∀f,o.about P w a.eval=S f->F.1 f:=λf hf=>by rw[hy.2 w]at hf;cases hf
 obtain⟨hw,hv⟩|⟨hw,rfl⟩:=hy.1;·simp only[hw,gG,Oper.wpIn,Oper.semAt_plain F a.eval o hd,hv w hS,Oper.uponIn];exact⟨hab,h⟩
 simp only[hw,Bool.false_eq_true,fD];exact⟨hab,h⟩
theorem YG.of_same{o v a a'}(hy:YG P ops S_ o v a)(he:execOp a'.eval o=execOp a.eval o)(hw:Region.wanted o (yielded ops a'.1)=Region.wanted o (yielded ops a.1))(hb:∀w,o.about P w a'.eval=o.about P w a.eval):YG P ops S_ o v a' :=
 ⟨hy.1.of_same he hw,λw=>(hb w)▸hy.2 w⟩
theorem AR{j oi oj v}(hdj:∀c,oj.2≠.defer c)(hj:ops[j]?=S oj)(hap:oi.apart ops oj=So)(hsi:∀cs b,oi.2≠.select cs b)(hsj:∀cs b,oj.2≠.select cs b)(hQ:∀c a w,Q_ (.panic c) (a.put oi.1 v) w->Q_ (.panic c) a w){K:Tf}{a}{w:Ub}(hy:YG P ops S_ oi v a)(h:wpOpIn F n P ops Q_ j K (a.put oi.1 v) w):
 wpOpIn F n P ops Q_ j (λa' w'=>YG P ops S_ oi v a'/\K (a'.put oi.1 v) w') a w:=by
 let⟨h1,h2,h3⟩:=Oper.apart_spec hap;have keep:∀(a:Act),YG P ops S_ oi v a->∀u,YG P ops S_ oi v (a.put oj.1 u):=λa hy u=>
  hy.of_same (execOp_put oi hsi a oj.1 u h3) (wanted_put oi a oj.1 u h3) λw=>about_put oi w a oj.1 u h3
 have keepD:∀d,YG P ops S_ oi v { a with defers:=d::a.2 }:=λd=>hy.of_same R R λ_=>R;unfold wpOpIn at*;simp only[hj]at*;rw[wanted_put oj a oi.1 v h1,about_put oj w a oi.1 v h1]at h;split
 .rename_i hw;simp only[hw,gG]at h;unfold Oper.wpIn at*;rw[about_put oj w a oi.1 v h1]at h;refine⟨h.1,?_⟩;have h:=h.2;rw[Oper.semAt_plain F _ oj hdj,execOp_put oj hsj a oi.1 v h1]at h;rw[Oper.semAt_plain F _ oj hdj];generalize (execOp a.eval oj).run P w=r at*;cases r with
  |ok x w'=>
   cases x<;>simp only[Oper.uponIn]at h |-
   case value u=>exact⟨keep a hy u,(jP a v u h2)▸h⟩
   case skip=>exact⟨keep a hy _,(jP a v Su h2)▸h⟩
   case defer d=>
    refine⟨keep _ (keepD d) _,?_⟩;rw[<-jP _ v Su h2,<-Act.put_defers];exact h
   case enter f args=>
    refine⟨h.1,CallsIn.mono h.2 λe w'' he=>?_⟩;cases e with
    |returned u=>exact⟨keep a hy u,(jP a v u h2)▸he⟩
    |panicked c=>exact hQ _ _ _ he
    |outgrown=>exact he
   case row row args=>exact⟨h.1,RowsIn.mono h.2 λu w'' he=>⟨keep a hy u,(jP a v u h2)▸he⟩⟩
   case round l f tmps assign body=>
    refine⟨h.1,RoundIn.mono h.2 λe w'' he=>?_⟩;cases e with
    |returned u=>exact⟨keep a hy u,(jP a v u h2)▸he⟩
    |panicked c=>exact hQ _ _ _ he
    |outgrown=>exact he
  |halt x w'=>
   cases x<;>simp only[Oper.uponIn]at h |-
   case panic u=>exact hQ _ _ _ h
 rename_i hw;simp only[hw]at h;exact⟨h.1,keep a hy _,(jP a v Su h2)▸h.2⟩
def Y9(F:Fence)(n:N)(P:Program)(md:Region.Mode)(ops:Array Oper)(Q_:Exit->Act->World->Prop)(S_:World->Prop):N->Array Bool->Act->World->Prop
 |0,listed,a,w=>Region.ready md ops listed=[]/\Q_ .normal a w
 |fuel+1,listed,a,w=>
  (Region.ready md ops listed=[]->Q_ .normal a w) /\
  ∀i∈Region.ready md ops listed,wpOpIn F n P ops Q_ i (λa' w'=>S_ w'/\Y9 F n P md ops Q_ S_ fuel (listed.setIfInBounds i So) a' w') a w
theorem K6:∀(fuel:N)(listed:Zz)(a:Act)(w:Ub),Y9 F n P md ops Q_ S_ fuel listed a w->wpAnyIn F n P md ops Q_ fuel listed a w
 |0,_,_,_,h=>h
 |fuel+1,_,_,_,h=>⟨h.1,λi hi=>wpOpIn_mono (λa' w' h'=>K6 fuel _ a' w' h'.2) (h.2 i hi)⟩
theorem AE{i oi v}(hnd:WQ ops=So)(hi:ops[i]?=S oi)(hsel:∀(j:N)(o:Oper) cs b,ops[j]?=S o->o.2≠.select cs b)(hQ:∀c a w,Q_ (.panic c) (a.put oi.1 v) w->Q_ (.panic c) a w):
 ∀(fuel:N)(listed:Zz)(a:Act)(w:Ub),
  (∀j oj,ops[j]?=S oj->j≠i->listed.getD j So=Sn->(∀e∈oj.5,Region.binds md e=So->e.1≠i)->oi.apart ops oj=So) ->
  i∈Region.ready md ops listed->YG P ops S_ oi v a->S_ w ->
  Y9 F n P md ops Q_ S_ fuel (listed.setIfInBounds i So) (a.put oi.1 v) w->Y9 F n P md ops Q_ S_ (fuel+1) listed a w:=by
 intro fuel
 induction fuel with
 |zero=>
  intro listed a w _ hr hy hS d;refine⟨λh=>(by rw[h]at hr;cases hr),λj hj=>?_⟩;by_cases hji:j=i;·subst hji;exact hy.wpOpIn (KN hnd hi) hi hS ⟨hS,d⟩
  have:=ready_mono hj hji;rw[d.1]at this;cases this
 |succ fuel ih=>
  intro listed a w hfree hr hy hS d;refine⟨λh=>(by rw[h]at hr;cases hr),λj hj=>?_⟩;by_cases hji:j=i;·subst hji;exact hy.wpOpIn (KN hnd hi) hi hS ⟨hS,d⟩
  have h1:=d.2 j<|ready_mono hj hji
  let⟨hjun,oj,hoj,hall⟩:=mem_ready.1 hj;have hnot:∀e∈oj.5,Region.binds md e=So->e.1≠i:=λe he hb heq=>by
   have h1:=hall e he hb;have h0:=(mem_ready.1 hr).1;rw[heq]at h1;obtain h'|h':=mL i (Z listed);·simp[h']at h0 h1;rw[h0]at h1;cases h1
   simp[iI h']at h1
  have h2:=AR (KN hnd hoj) hoj (hfree j oj hoj hji hjun hnot) (λcs b=>hsel i oi cs b hi) (λcs b=>hsel j oj cs b hoj) hQ hy h1;have hfree':∀k ok,ops[k]?=S ok->k≠i->(listed.setIfInBounds j So).getD k So=Sn ->
   (∀e∈ok.5,Region.binds md e=So->e.1≠i)->oi.apart ops ok=So:=λk ok hk hki hun hno=>by
   refine hfree k ok hk hki ?_ hno;by_cases hjk:j=k;·subst hjk;exact hjun
   rw[getD_set_ne So hjk]at hun;exact hun
  refine wpOpIn_mono (λa' w' h3=>⟨h3.2.1,ih (listed.setIfInBounds j So) a' w' hfree' (ready_mono hr<|kA hji) h3.1 h3.2.1 ?_⟩) h2;rw[Array.setIfInBounds_comm _ _ hji];exact h3.2.2
theorem AW{i oi v fuel}{listed:Zz}{a w}(hi:ops[i]?=S oi)(hnd:WQ ops=So)(hs:Region.noSelect ops=So)(hf:Region.free md ops listed i=So)(hr:(Region.ready md ops listed).contains i=So)(hQ:∀c a w,Q_ (.panic c) (a.put oi.1 v) w->Q_ (.panic c) a w)(hy:YG P ops S_ oi v a)(hS:S_ w)(h:Y9 F n P md ops Q_ S_ fuel (listed.setIfInBounds i So) (a.put oi.1 v) w):Y9 F n P md ops Q_ S_ (fuel+1) listed a w :=
 AE hnd hi (Region.noSelect_spec hs) hQ fuel listed a w (Region.free_spec hi hf) (by simpa using hr) hy hS h
theorem AS{listed:Zz}{a:Act}{w:Ub}(hr:Region.ready md ops listed=[])(h:Q_ .normal a w):
 ∀fuel,Y9 F n P md ops Q_ S_ fuel listed a w
 |0=>⟨hr,h⟩
 |_+1=>⟨λ_=>h,by rw[hr];simp⟩
def Xu(F:Fence)(n:N)(P:Yh)(md:Region.Mode)(ops:Array Oper)(Q_:Yt)(S_:Vy)(fuel:N)(listed:Zz)(a:Act)(w:Ub)(rs:Wa):Prop :=
 ∀i∈rs,wpOpIn F n P ops Q_ i (λa' w'=>S_ w'/\Y9 F n P md ops Q_ S_ fuel (listed.setIfInBounds i So) a' w') a w
theorem Xu.nil{fuel listed a w}:Xu F n P md ops Q_ S_ fuel listed a w []:=λ_ h=>by cases h
theorem Xu.cons{fuel listed a}{w:Ub}{i o rs}(ho:ops[i]?=S o)(h:∀K':Tf,Shut (∀a w,S_ w->(S_ w->Y9 F n P md ops Q_ S_ fuel (listed.setIfInBounds i So) a w)->K' a w)->if Region.wanted o (yielded ops a.1)=So then Oper.wpIn F n P o a w K' Q_ else (∀f,o.about P w a.eval=S f->F.1 f)/\K' (a.put o.1 Su) w)(hs:Xu F n P md ops Q_ S_ fuel listed a w rs):Xu F n P md ops Q_ S_ fuel listed a w (i::rs):=λj hj=>by
 obtain rfl|hj:=cH.1 hj;·exact wpOpIn_step ho λK' hK=>h K' λa w hS hW=>hK a w ⟨hS,hW hS⟩
 exact hs j hj
theorem YM{rs:Wa}{fuel}{listed:Zz}{a w}(hr:Region.ready md ops listed=rs)(hne:rs≠[])(h:Xu F n P md ops Q_ S_ fuel listed a w rs):Y9 F n P md ops Q_ S_ (fuel+1) listed a w:=⟨λh0=>Sz (hr▸h0) hne,hr▸h⟩
def k9(Q_:Exit->Act->World->Prop):Exit->Act->World->Prop
 |.normal,a,w=>Q_ .normal a w
 |_,_,_=>False
theorem Tl{id a}{w:Ub}(hm:P.follows .mixedOrders=So)(hS:S_ w.drew)(h:S_ w.drew->Y9 F n P .any ops (k9 Q_) S_ (Z ops) (Array.replicate (Z ops) Sn) a w.drew):(Code.region id ops So).wpIn F n P Q_ a w :=
 wpIn_mono (wpIn_region_any (Q:=k9 Q_) hm (K6 _ _ _ _<|h hS)) λe _ _ h=>by cases e<;>first|exact h|exact h.elim
theorem AH{listed:Zz}{a w}(hr:Region.ready md ops listed=[])(h:Q_ .normal a w)(fuel):Y9 F n P md ops (k9 Q_) S_ fuel listed a w:=AS (Q_:=k9 Q_) hr (show k9 Q_ .normal a w from h) fuel
end
theorem Yi{F:Fence}{n:N}{P:Yh}{md:Region.Mode}{ops:Array Oper}{Q_:Yt}{S_:Vy}(i:N){oi:Oper}{v:Uj}{fuel:N}{listed:Zz}{a b:Act}{w:Ub}(h:Y9 F n P md ops Q_ S_ fuel (listed.setIfInBounds i So) b w)(hi:ops[i]?=S oi:=by exact rfl)(hw:Region.wanted oi (yielded ops a.1)=So:=by rfl)(hy:∀(w:Ub),S_ w->Sem.run P (execOp a.eval oi) w=Result.ok (Next.value v) w:=by intro w hSw;(try dsimp only at hSw);go_simp;try with_reducible rfl)(hp:a.put oi.1 v=b:=by(simp only[xX]);exact rfl)(hq:∀c a w,Q_ (.panic c) (a.put oi.1 v) w->Q_ (.panic c) a w:=by exact λ_ _ _ h=>h)(hz:∀w,oi.about P w a.eval=U:=by exact λ_=>rfl)(hnd:WQ ops=So:=by kernel_rfl)(hs:Region.noSelect ops=So:=by kernel_rfl)(hf:Region.free md ops listed i=So:=by kernel_rfl)(hr:(Region.ready md ops listed).contains i=So:=by kernel_rfl)(hS:S_ w:=by assumption):Y9 F n P md ops Q_ S_ (fuel+1) listed a w:=AW hi hnd hs hf hr hq ⟨bC ⟨hw,hy⟩,hz⟩ hS (hp▸h)
theorem Yc{F:Fence}{n:N}{P:Yh}{md:Region.Mode}{ops:Array Oper}{Q_:Yt}{S_:Vy}(i:N){oi:Oper}{fuel:N}{listed:Zz}{a:Act}{w:Ub}(h:∀K':Tf,Shut (∀a w,S_ w->∀{b:Act},(S_ w->Y9 F n P md ops Q_ S_ fuel (listed.setIfInBounds i So) b w)->(hp:a=b:=by(try simp only[xX]);exact rfl)->K' a w)->if Region.wanted oi (yielded ops a.1)=So then Oper.wpIn F n P oi a w K' Q_ else (∀f,oi.about P w a.eval=S f->F.1 f)/\K' (a.put oi.1 Su) w)(hi:ops[i]?=S oi:=by exact rfl)(hr:Region.ready md ops listed=[i]:=by kernel_rfl):Y9 F n P md ops Q_ S_ (fuel+1) listed a w:=YM (rs:=[i]) hr (by simp) (Xu.cons hi (λK hK=>h K λa w hs b k hp=>hK a w hs (hp▸k)) Xu.nil)
theorem Tc{F:Fence}{n:N}{P:Yh}{ops:Array Oper}{Q_:Yt}(S_:Vy){id:N}{a:Act}{w:Ub}(h:S_ w.drew->Y9 F n P .any ops (k9 Q_) S_ (Z ops) (Array.replicate (Z ops) Sn) a w.drew)(hS:S_ w.drew:=by first|with_reducible exact True.intro|((try dsimp only);go_keep))(hm:P.follows .mixedOrders=So:=by kernel_rfl):(Code.region id ops So).wpIn F n P Q_ a w:=Tl hm hS h
theorem ZV{F:Fence}{n:N}{P:Yh}{md:Region.Mode}{ops:Array Oper}{Q_:Yt}{S_:Vy}{listed:Zz}{a:Act}{w:Ub}{fuel:N}(h:Q_ .normal a w)(hr:Region.ready md ops listed=[]:=by kernel_rfl):Y9 F n P md ops (k9 Q_) S_ fuel listed a w:=AH hr h fuel
end
section
open Go.Deep
structure IW(L B:N)(w w':Ub):Prop where
 os:w'.4=w.4
 tape:w'.2=w.2
 output:w'.5=w.5
 size:Z w'.1=Z w.1
 block:∀k,¬(L<=k/\k<B)->w'.1[k]?=w.1[k]?
 cell:∀p,E w' p=E w p\/∃u v,E w p=S (Si S6 u)/\E w' p=S (Si S6 v)
 frozen:∀p,w'.frozen? p=w.frozen? p
variable{w w' w1:Ub}{L B:N}
theorem IW.refl(L B w):IW L B w w:=⟨R,R,R,R,λ_ _=>R,λ_=>bC R,λ_=>R⟩
theorem IW.trans{c}(h:IW L B w w1)(k:IW L B w1 c):IW L B w c:=by
 refine⟨G k.1 h.1,G k.2 h.2,G k.3 h.3,G k.4 h.4,λi b=>G (k.5 i b) (h.5 i b),λp=>?_,λp=>G (k.7 p) (h.7 p)⟩;obtain e|⟨u,v,e1,e2⟩:=k.6 p
 .rcases h.6 p with f|⟨u,v,f1,f2⟩;·exact bC<|G e f
  exact aZ ⟨u,v,f1,G e f2⟩
 obtain f|⟨d,g,f1,f2⟩:=h.6 p;·exact aZ ⟨u,v,G f.symm e1,e2⟩
 exact aZ ⟨d,v,f1,e2⟩
theorem IW.set(h:IW L B w w1){b o}(f:L<=b/\b<B){u}(c:E w1 ⟨b,o,U⟩=S (Si S6 u))(v):IW L B w (Se w1 ⟨b,o,U⟩ (Si S6 v)):=by
 refine h.trans ⟨R,R,R,SH,λk d=>cY SG,λp=>?_,λp=>eX _ _ _ _⟩;by_cases e:p=(A b o)
 .subst e;exact aZ ⟨u,v,c,fQ _ _ _ c⟩
 exact bC<|cJ λh=>e h.symm
theorem IW.int(h:IW L B w w'){p u}(b:E w p=S (H u)):∃v,E w' p=S (H v):=by
 obtain e|⟨_,v,_,e⟩:=h.6 p;·exact⟨u,G e b⟩
 exact⟨v,e⟩
def iy(L B:N)(w:Ub):Prop:=∀b o,L<=b/\b<B->w.frozen? ⟨b,o,U⟩=Sn
theorem iy.keepS{L B w w'}(h:iy L B w)(k:YA L B w w'):iy L B w':=λc o b=>G (bJ<|k c b.1 b.2) (h c o b)
theorem iy.setCell{L B w}(h:iy L B w)(p)(v:Uj):iy L B (Se w p v):=λb o c=>by rw[eX];exact h b o c
variable{L' B':N}{a:Uy}
end
def K8(l:Wn):ByteArray:=⟨l.toArray⟩
theorem i7(l):(K8 l).size=J l:=by simp[K8,ByteArray.size]
theorem Wj{a p}:XG (a++[p])=XG a++[p.1]:=by simp[XG]
theorem Vx{a p}:XI (a++[p])=XI a++(if dB p.1 then [p.2]else []):=by simp only[XI,eU,bG];congr 1;cases h:dB p.1<;>simp[h]
theorem U0:BX (x++[q])=BX x++Z6 q:=by simp[BX]
theorem TP(a):J (XI a)<=J a:=by simp only[XI,bK];exact fJ _ _
theorem KP(a):J (BX a)<=Xx a:=by
 induction a with
 |nil=>simp[BX]
 |cons x a e=>
  have b:BX (x::a)=Z6 x++BX a:=by simp[BX]
  have c:Xx (x::a)=ZZ x+Xx a:=by simp[Xx]
  have d:J (Z6 x)<=ZZ x:=by simp only[Z6,XG,aQ,bK,ZZ];have:=TP x.2;omega
  rw[b,c,aQ];omega
theorem uZ{wr:Ub}(g:Sw (Z w.1) w wr)(f:Z w.1<Z wr.1)(e:E wr ⟨Z w.1,1,U⟩=S (X p m c))(o)(d:Sx wr (Z w.1+1) 2 1 a n y)(b:(D wr o).grownBy v a.ownBlock):
 Sw (Z w.1) w v/\Z w.1<Z v.1/\E v ⟨Z w.1,1,U⟩=S (X p m c)/\Z wr.1<=Z v.1:=by
 have h:=b.4;simp at h;refine⟨Xy (Xb g _) b (d.alloc _) O SB,O,?_,O⟩;exact G (Xc<|YJ b (d.alloc _) (b:=Z w.1) O SB) (oB (Xb (dC (Z wr.1) wr) _) e f)
theorem BU(ha:Q (Xp w m k p x))(V_:Q (n=J x))(hn:n<=1048576)(hs:Q (Xx x<=1048576))(hB:k<=Z w.1):
 Sk prog 90 #[Sa #[H t,X p n c]] w λo M=>∃M_ c',o=Rt (X M_ (J (BX x)) c')/\Sw (Z w.1) w M/\Xf M (Z w.1) (Z M.1) M_ (BX x):=by
 go_in
 go_wp2
 go_loopw [3,4] (λu i wr=>∃a:N,a<=n/\i=H a/\Sw (Z w.1) w wr/\Z w.1<Z wr.1/\E wr (A (Z w.1) 1)=S (X p n c)/\Sx wr (Z w.1+1) 2 1 u (J (BX<|x.take a)) ((BX<|x.take a).map (Si S6))) λ_ i _=>n-(JB i).toNat
 .exact⟨0,aN,R,Xb (Xb Rf _) _,SB,sP,K5 _ _⟩
 obtain⟨a,hk,rfl,U_,al,ad,C⟩:=hrel;by_cases ar:a<n;rotate_left
 .go_wp2;go_ret;have o:=aW (l:=x) (i:=a) (oN V_.o);rw[o]at C;obtain⟨a1,c1,rfl,af⟩:=Xk C;exact⟨_,_,R,U_,af.mono O<|aA⟩
 have P:a<J x:=oN V_.o
 obtain⟨N_,ab,rfl,⟨_,ao⟩,Q_⟩:=ha a P;have L_:=Y Q_;have aj:Q (BX (x.take<|a+1)=BX (x.take a)++(XG x[a].1++XI x[a].2)):=by show _=_;rw[X7 P,U0];rfl
 have ap:J (BX<|x.take a)+(J x[a].1+JG x[a].1+J x[a].2)<=1048576:=by have h1:=UX x<|a+1;rw[X7 P,Vm]at h1;have h2:=KP<|x.take a;have r:=hs.o;have h4:ZZ x[a]=J x[a].1+JG x[a].1+J x[a].2:=R;omega
 have az:J x[a].1<=1048576:=O;have aq:J x[a].2<=1048576:=O;have HO:=Y C;clear C Q_;generalize hX:x[a]=e at*;clear hX;generalize BX (x.take a)=K at*;let⟨pa,pc,ia,ic,O_,e1,_,T_,R_⟩:=L_.o;have HP:=Y T_;have HI:=Y R_;have E0:=Y O_;have K_:=Y e1;clear O_ e1 T_ R_ L_;go_wp2
 go_loopw [3,5] (λu i g=>∃j:N,j<=J e.1/\i=H j/\Sw (Z w.1) w g/\Z w.1<Z g.1/\E g (A (Z w.1) 1)=S (Hm N_ ab n c)/\Sx g (Z w.1+1) 2 1 u (J (K++XG (e.1.take j))) ((K++XG (e.1.take j)).map (Si S6))) λ_ i _=>J e.1-(JB i).toNat
 .exact⟨0,aN,R,U_,al,ad,by simpa [XG]using HO.o⟩
 obtain⟨j,e_,rfl,b,l,h,f⟩:=hrel;have f0:=G (XU b O) E0;have f1:=G (XU b O) K_;by_cases s:j<J e.1
 .obtain⟨b',o',rfl,⟨_,ac⟩,aa,cc,q,L,_⟩:=HP j s;have e2:=G (XU b O) q;have r:Q (K++XG (e.1.take<|j+1)=(K++XG (e.1.take j))++[e.1[j].1]):=by show _=_;rw[X7 s,Wj,cK]
  have hl:J (K++XG (e.1.take j))<=1048576:=by simp[XG];omega
  clear q L;generalize e.1[j]=P_ at*;generalize K++XG (e.1.take j)=D1 at*;have d:=Y f;clear f f1;go_wp2_with (at_builtin;refine YC RH d ?_)
  intro v1 w1 v T _ _;have F:=Y v;clear v;go_wp2;let⟨q1,q2,q3,_⟩:=uZ b l h _ d T;exact⟨⟨j+1,O,gM,q1,q2,q3,by rw[r.o,Yl];simpa using F.o⟩,SA⟩
 have B:=Y<|aW (l:=e.1) (i:=j) O;have d:=Y f;clear f;go_wp2
 go_loopw [3,6] (λu i g=>∃j:N,j<=J e.2/\i=H j/\Sw (Z w.1) w g/\Z w.1<Z g.1/\E g (A (Z w.1) 1)=S (Hm N_ ab n c)/\Sx g (Z w.1+1) 2 1 u (J (K++XG e.1++XI (e.2.take j))) ((K++XG e.1++XI (e.2.take j)).map (Si S6))) λ_ i _=>J e.2-(JB i).toNat
 .exact⟨0,aN,R,b,l,h,by have:=d.o;rw[B.o]at this;simpa [XI]using this⟩
 clear b l h f0 f1 d B;obtain⟨j,e_,rfl,b,l,h,f⟩:=hrel;have f1:=G (XU b O) K_;by_cases s:j<J e.2
 .obtain⟨b',o',rfl,⟨_,ac⟩,q,L,_,_,_⟩:=HI j s;have e2:=G (XU b O) q;have e3:=G (XU b O) L;have r:Q (K++XG e.1++XI (e.2.take<|j+1)=(K++XG e.1++XI (e.2.take j))++(if dB e.2[j].1 then [e.2[j].2]else [])):=by show _=_;rw[X7 s,Vx,<-cK]
  have hl:J (K++XG e.1++XI (e.2.take j))<=1048576:=by have:=TP<|e.2.take j;simp[XG]at this |-;omega
  clear q L;generalize e.2[j]=P_ at*;generalize K++XG e.1++XI (e.2.take j)=D1 at*;have d:=Y f;clear f;cases hd:dB P_.1
  .have V:=Y hd;go_wp2_with (go_at_call 51;refine YU (nZ _ _) λW z=>?_;rw[z];clear z W)
   exact⟨⟨j+1,O,gM,b,l,h,by rw[r.o,V.o];simpa using d.o⟩,SA⟩
  have V:=Y hd;go_wp2_with (first|(go_at_call 51;refine YU (nZ _ _) λW z=>?_;rw[z];clear z W)|(at_builtin;refine YC RH d ?_))
  intro v1 w1 v T _ _;have F:=Y v;clear v;go_wp2;let⟨q1,q2,q3,_⟩:=uZ b l h _ d T;exact⟨⟨j+1,O,gM,q1,q2,q3,by rw[r.o,V.o,aU R,Yl];simpa using F.o⟩,SA⟩
 have B:=Y<|aW (l:=e.2) (i:=j) O;have d:=Y f;clear f;go_wp2;exact⟨⟨a+1,O,gM,b,l,h,by have:=d.o;rw[B.o]at this;rw[aj.o,<-cK];exact this⟩,SA⟩
theorem AT{b a}:
 Sk prog 147 #[Sa #[H t,H T,H z,H b,H a]] w λe c=>e=Rt (Sb (Wu ⟨t,T,z,b,a⟩))/\Sw (Z w.1) w c:=by
 go_in
 go_wp2
 all_goals
  go_ret;refine⟨Xl ?_,Xb Rf _⟩
  first|(simp[Wu, *];done)|(simp[Wu, *];omega)
def Uw(w:Ub):Prop:=2 < Z w.1/\∀k:N,1<=k->k<=13->∃s,E w ⟨2,k*5,U⟩=S (Sg s)/\E w ⟨2,k*5+1,U⟩=S (Sb (dB k))/\E w ⟨2,k*5+2,U⟩=S (Sb (aB k)) /\
 E w ⟨2,k*5+3,U⟩=S (Sb (bB k))/\∃i,E w ⟨2,k*5+4,U⟩=S (Sb i)
def T7(w:Ub):Prop:=1 < Z w.1/\∀k:N,1<=k->k<=3->∃s,E w ⟨1,k*4,U⟩=S (Sg s)/\E w ⟨1,k*4+1,U⟩=S (Sb ((k:I) != 1))/\E w ⟨1,k*4+2,U⟩=S (Sb ((k:I) != 3)) /\
 E w ⟨1,k*4+3,U⟩=S (Sb ((k:I)==2))
theorem Uw.keep{w':Ub}(h:Uw w)(k:Sw (Z w.1) w w'):Uw w':=by refine⟨aX h.1 k.4,λi a b=>?_⟩;have e:=λo=>Xc (o:=o) (k.5 2 h.1);let⟨s,c0,c1,c2,c3,j,c4⟩:=h.2 i a b;exact⟨s,G (e _) c0,G (e _) c1,G (e _) c2,G (e _) c3,j,G (e _) c4⟩
theorem T7.keep{w':Ub}(h:T7 w)(k:Sw (Z w.1) w w'):T7 w':=by refine⟨aX h.1 k.4,λi a b=>?_⟩;have e:=λo=>Xc (o:=o) (k.5 1 h.1);let⟨s,c0,c1,c2,c3⟩:=h.2 i a b;exact⟨s,G (e _) c0,G (e _) c1,G (e _) c2,G (e _) c3⟩
theorem AB(a e c d f n b)(z:b<=13)(l:Q (Uw w)):
 Sk prog 78 #[Sa #[H a,H e,H c,H d,H f],H b,H n] w λg v=>g=Rt (Sb (Yw n b ⟨a,e,c,d,f⟩))/\Sw (Z w.1) w v:=by
 by_cases j:1<=a/\a<=b
 .let⟨i,q⟩:=j
  obtain⟨k,rfl⟩:=bX (show 0<=a by omega);have K:=l.1;let⟨C,c0,c1,c2,c3,B,c4⟩:=l.2 k O O;have s:Q (Yw n b ⟨k,e,c,d,f⟩=(Tp (dB k) e 0 n&&Tp (aB k) c 0 n&&Tp (bB k) d 0 n&&Wu ⟨k,e,c,d,f⟩)):=by show _=_;unfold Yw;rw[eB i,eB q];simp
  generalize dB k=F at*;generalize aB k=L at*;generalize bB k=M at*;have y:(k:I)<=13:=O
  go_in
  go_wp2_with (first|(go_at_call 146;refine YU Yp λp o=>?_;rw[o];clear o p)|(go_at_call 147;refine YU AT λp t=>?_))
  all_goals
   go_ret;refine⟨Xl ?_,?_⟩;·rw[s.o];simp[*]
   first|exact Xg (Xb (Xb Rf _) _) t|exact Xb (Xb Rf _) _
 have u:∃r,r=Yw n b ⟨a,e,c,d,f⟩/\r=Sn:=⟨_,R,by
  unfold Yw;by_cases i:1<=a;·rw[dJ (p:=a<=b) O];simp
  rw[dJ (p:=1<=a) i];simp⟩
 obtain⟨r,m,rfl⟩:=u;rw[<-m];clear m;have h:a<1\/(1<=a/\b<a):=O;clear j;obtain h|⟨h,x⟩:=h
 all_goals
  go_in
  go_wp2
  all_goals
   go_ret;exact⟨R,Xb Rf _⟩
theorem TI{b a n}(c:Q (Uw w)):
 Sk prog 78 #[Sa #[H t,H T,H z,H b,H a],H 10,H n] w λe d=>e=Rt (Sb (Yw n 10 ⟨t,T,z,b,a⟩))/\Sw (Z w.1) w d :=
 AB t T z b a n 10 vY c
theorem Kn{tg n low a}(b:Q (T7 w)):
 Sk prog 77 #[Sa #[H t,H T,H tg,H z],H n,H low,H a] w λe l=>e=Rt (Sb (Zu n low a ⟨t,T,tg,z⟩))/\Sw (Z w.1) w l:=by
 by_cases h:1<=t/\t<=3
 .let⟨f,g⟩:=h
  obtain⟨k,rfl⟩:=bX (show 0<=t by omega);have p:=b.1;let⟨s,c0,c1,c2,c3⟩:=b.2 k O O;have i:Q (Zu n low a ⟨k,T,tg,z⟩=(Tp ((k:I) != 1) T 0 n&&Tp ((k:I) != 3) tg low a&&Tp ((k:I)==2) z low a)):=by show _=_;unfold Zu;rw[eB f,eB g];simp
  generalize ((k:I) != 1)=q at*;generalize ((k:I) != 3)=v at*;generalize ((k:I)==2)=u at*
  go_in
  go_wp2_with (go_at_call 146;refine YU Yp λm d=>?_;rw[d];clear d m)
  all_goals
   go_ret;refine⟨Xl ?_,?_⟩;·rw[i.o];simp[*]
   exact Xb (Xb Rf _) _
 have j:∃r,r=Zu n low a ⟨t,T,tg,z⟩/\r=Sn:=⟨_,R,ug h⟩;obtain⟨r,c,rfl⟩:=j;rw[<-c];clear c;have o:t<1\/3<t:=O;clear h
 go_in
 go_wp2
 all_goals
  go_ret;exact⟨R,Xb Rf _⟩
theorem J4(t:Yj)(w:Ub):
 Sk prog 120 #[Sa #[H t.1,H t.a,H t.3,H t.4]] w λj f=>∃g c,j=Rt (X g (J t.tg) c)/\Sw (Z w.1) w f/\Xf f (Z w.1) (Z f.1) g t.tg:=by
 let⟨b,l,tg,k⟩:=t;by_cases d:b=1
 .subst d
  go_in
  go_wp2;go_ret;refine⟨_,_,R,Xb (Xb Rf _) _,λi a=>?_⟩;simp[Yj.tg]at a;subst a;exact⟨_,_,R,⟨sP,sP⟩,by simp[Yj.tg]⟩
 by_cases e:b=2
 .subst e
  go_in
  go_wp2;go_ret;refine⟨_,_,R,Xb (Xb Rf _) _,λi a=>?_⟩;simp[Yj.tg]at a
  match i,a with
  |0,_=>exact⟨_,_,R,⟨sP,sP⟩,by simp[Yj.tg]⟩
  |1,_=>exact⟨_,_,R,⟨sP,sP⟩,by simp[Yj.tg]⟩
 have e1:(b==1)=Sn:=by simp[d]
 have e2:(b==2)=Sn:=by simp[e]
 have h:(Yj.tg ⟨b,l,tg,k⟩)=[]:=by simp[Yj.tg,d,e]
 rw[h]
 go_in
 go_wp2;go_ret;exact⟨_,_,R,Xb Rf _,λi a=>Sz a sP⟩
def Xh(W:Wk)(x:N):Bool:=(W<|x/64).testBit (x%64)
def YH(W:Wk)(x:N):Wk:=λi=>if i=x/64 then W i|||2^(x%64)else W i
def XA(W:Wk):Prop:=∀i,W i<18446744073709551616
theorem Z3:Xh (λ_=>0) n=Sn:=by simp[Xh]
theorem Z8:Xh (YH f n) m=(Jd (m=n)||Xh f m):=by
 unfold Xh YH;by_cases h:m/64=n/64
 .rw[aU h,Nat.testBit_or,nE];by_cases e:n%64=m%64
  .have:m=n:=O;simp[this]
  have:¬m=n:=λa=>e (by rw[a]);simp[this,e]
 rw[aM h];have:¬m=n:=λa=>h (by rw[a]);simp[this]
theorem oV(h:XA f)(x):XA (YH f x):=λi=>by
 unfold YH;split;·exact Nat.or_lt_two_pow (n:=64) (h i) (lB vY<|dS _ vY)
 exact h i
def NT(a b T:Wk)(i:N):N:=(b i&&&(18446744073709551615-T i))&&&(18446744073709551615-a i)
def NR(a b T:Wk)(i:N):N:=a i|||NT a b T i
theorem qA(ha:n<18446744073709551616)(a:m<64):(18446744073709551615-n).testBit m=!n.testBit m:=by have:=Nat.testBit_two_pow_sub_succ (n:=64) (x:=n) ha m;rw[show 18446744073709551615-n=2^64-(n+1) by omega,this];simp[a]
theorem WU{O_}(b:XA f)(c:XA F)(i)(a:n<64):(NT f O_ F i).testBit n=((O_ i).testBit n&&!(F i).testBit n&&!(f i).testBit n):=by unfold NT;rw[jW,jW,qA (c i) a,qA (b i) a]
theorem WR{S_ T}(a:XA f)(i):NT S_ f T i<18446744073709551616:=iC (aJ jB jB) (a i)
theorem q8{T}(b:XA f)(a:XA F):XA (NR f F T):=λi=>Nat.or_lt_two_pow (n:=64) (b i) (WR a i)
theorem vD{T}(a:XA f)(b:XA T)(x):Xh (NR f F T) x=(Xh f x||(Xh F x&&!Xh T x)):=by unfold Xh NR;rw[Nat.testBit_or,WU a b _<|dS _ vY];cases (f<|x/64).testBit (x%64)<;>simp
theorem CF{T}(e:XA f)(d:XA F)(g:XA T)(i)(h:NT f F T i≠0):∃x,x/64=i/\Xh F x=So/\Xh T x=Sn/\Xh f x=Sn:=by
 let⟨t,a⟩:=Nat.exists_testBit_of_ne_zero h;have c:t<64:=by
  obtain b|b:=mL t 64;·exact b
  have:=Nat.testBit_lt_two_pow<|aX (WR (S_:=f) (T:=T) d i) (IJ vY b:2^64<=2^t);rw[this]at a;cases a
 rw[WU e g _ c]at a;simp only[bY,lV]at a;refine⟨64*i+t,O,?_,?_,?_⟩;·unfold Xh;rw[show(64*i+t)/64=i by omega,show(64*i+t)%64=t by omega];exact a.1.1
 .unfold Xh;rw[show(64*i+t)/64=i by omega,show(64*i+t)%64=t by omega];exact a.1.2
 unfold Xh;rw[show(64*i+t)/64=i by omega,show(64*i+t)%64=t by omega];exact a.2
theorem Cn{T}(c:XA f)(d:XA T)(h:NT f F T (n/64)=0)(a:Xh F n=So)(b:Xh T n=Sn):Xh f n=So:=by
 have:=WU (O_:=F) c d (n/64) (dS n<|show 0<64 by decide);rw[h,Nat.zero_testBit]at this;unfold Xh at*;rw[a,b]at this;cases hs:(f<|n/64).testBit (n%64)with
 |true=>rfl
 |false=>rw[hs]at this;cases this
def Ix(a b T:Wk)(K:N):Bool:=(Rg K).any λi=>NT a b T i != 0
theorem AK{T}:Ix f F T 0=Sn:=R
theorem AL(a b T K):Ix a b T (K+1)=(Ix a b T K||(NT a b T K != 0)):=by unfold Ix;rw[dN,List.any_append];simp
theorem DV{T}(c:XA f)(b:XA F)(d:XA T)(h:Ix f F T n=So):∃x,x<64*n/\Xh F x=So/\Xh T x=Sn/\Xh f x=Sn:=by let⟨i,e,g⟩:=List.any_eq_true.1 h;let⟨x,j,a⟩:=CF c b d i (by simpa using g);have:=bE.1 e;exact⟨x,O,a⟩
theorem Eh{T}(c:XA f)(d:XA T)(h:Ix f F T n=Sn)(e:m<64*n)(a:Xh F m=So)(b:Xh T m=Sn):Xh f m=So:=by refine Cn c d ?_ a b;have:=List.any_eq_false.1 h (m/64) (bE.2 O);simpa using this
def E2(W:Wk)(a:Wa):Wk:=a.foldl YH W
theorem VW{W}(h:n<J s):E2 W (s.take<|n+1)=YH (E2 W<|s.take n) s[n]:=by unfold E2;rw[bN h,dT];rfl
theorem Zs:∀(a:Wa){W:Wk},XA W->XA (E2 W a)
 |[],_,h=>h
 |t::a,_,h=>Zs a<|oV h t
theorem YR:∀(a:Wa)(W:Wk)(y:N),Xh (E2 W a) y=(Jd (y∈a)||Xh W y)
 |[],W,y=>by simp[E2]
 |t::a,W,y=>by
  show Xh (E2 (YH W t) a) y=_;rw[YR a,Z8];by_cases b:y=t;·simp[b]
  by_cases c:y∈a<;>simp[b,c]
theorem AM{b}(h:r=b):Rt (Sb r)=Rt (Sb b):=by rw[h]
theorem rh(x:N):(x:I).tdiv 64=((x/64:N):I):=by rw[fY O];omega
theorem rg(x:N):(x:I).tmod 64=((x%64:N):I):=by rw[eW O];omega
theorem ux(b:n<18446744073709551616):(bits .and .u64 ((n:I)/2^m) 1==1)=n.testBit m:=by
 have hq:n/2^m<18446744073709551616:=iC (Nat.div_le_self _ _) b;have e:((n:I)/2^m)=((n/2^m:N):I):=sP;rw[e,show(1:I)=((1:N):I)from R,jH _ _ hq vY,Nat.and_one_is_mod,Nat.testBit_eq_decide_div_mod_eq];by_cases h:n/2^m%2=1;·simp[h]
 have a:n/2^m%2=0:=O;simp[a]
theorem tZ(c:m<64)(b:n<18446744073709551616):bits .or .u64 (n:I) (IntKind.u64.wrap<|2^m)=((n|||2^m:N):I):=by
 have a:2^m<18446744073709551616:=aX (lB vY c) vY;have e:IntKind.u64.wrap (2^m)=((2^m:N):I):=by rw[iV];have:((2^m:N):I)=(2:I)^m:=sP;rw[<-this];exact mB (kF _) (Int.ofNat_lt.2 a)
 rw[e,u64_or_nat _ _ b a]
def C9(tg:N->List N):N->N->(N->N)×List N->(N->N)×List N
 |0,_,s=>s
 |m+1,b,s=>if Xh s.1 b=So then s else
  (((tg b).foldl (λs t=>C9 tg m t s) (YH s.1 b,s.2)).1,((tg b).foldl (λs t=>C9 tg m t s) (YH s.1 b,s.2)).2++[b])
def X8(a:List Xe)(b:N):List N:=match a[b]? with
 |some x=>x.3.tg.map Int.toNat
 |none=>[]
theorem Km(h:n<J x):X8 x n=x[n].3.tg.map Int.toNat:=by unfold X8;rw[aC h]
def XB(W:Wk)(n:N):N:=J ((Rg n).filter λx=>!Xh W x)
theorem JY(n)(h:∀x,Xh f x=So->Xh F x=So):XB F n<=XB f n:=by
 unfold XB;rw[<-gK,<-gK];refine List.countP_mono_left λx _ a=>?_;cases h1:Xh f x with
 |false=>rfl
 |true=>rw[h x h1]at a;cases a
theorem T8(h:XB f n=0)(a:m<n):Xh f m=So:=by unfold XB at h;have:=mJ.1 (List.length_eq_zero_iff.1 h) m (bE.2 a);simpa using this
theorem Tb{W}(d:m<n)(f:Xh W m=Sn):XB (YH W m) n+1<=XB W n:=by
 have h:∀n,XB (YH W m) n+(if m<n then 1 else 0)<=XB W n:=λn=>by
  induction n with
  |zero=>simp[XB]
  |succ n a=>
   unfold XB at*;rw[dN,eU,eU,aQ,aQ];by_cases e:n=m
   .subst e;rw[aM O]at a;rw[aU O];have c:J ([n].filter λx=>!Xh (YH W n) x)=0:=by simp[Z8]
    have i:J ([n].filter λx=>!Xh W x)=1:=by simp[f]
    omega
   have c:J ([n].filter λx=>!Xh (YH W m) x)=J ([n].filter λx=>!Xh W x):=by
    congr 1;refine lW λx g=>?_;have:x=n:=by simpa using g
    subst this;rw[Z8,dJ e,jV]
   by_cases b:m<n;·rw[aU b]at a;rw[aU O];omega
   rw[aM b]at a;rw[aM O];omega
 have:=h n;rw[aU d]at this;exact this
theorem KB(tg:Yr):∀(m b:N)(s:Wk×Wa)(x:N),Xh s.1 x=So->Xh (C9 tg m b s).1 x=So
 |0,_,_,_,h=>h
 |m+1,b,s,x,h=>by
  rw[C9];split;·exact h
  have c:∀(l:Wa)(s:Wk×Wa),Xh s.1 x=So->Xh (l.foldl (λs t=>C9 tg m t s) s).1 x=So:=λl=>by
   induction l with
   |nil=>intro s h;exact h
   |cons t l a=>intro s h;exact a _<|KB tg m t s x h
  exact c _ _<|by rw[Z8,h];simp
theorem oW(tg:Yr):∀(m b:N)(s:Wk×Wa),XA s.1->XA (C9 tg m b s).1
 |0,_,_,h=>h
 |m+1,b,s,h=>by
  rw[C9];split;·exact h
  have c:∀(l:Wa)(s:Wk×Wa),XA s.1->XA (l.foldl (λs t=>C9 tg m t s) s).1:=λl=>by
   induction l with
   |nil=>intro s h;exact h
   |cons t l a=>intro s h;exact a _<|oW tg m t s h
  exact c _ _<|oV h b
theorem Ue(tg:Yr)(m)(l:Wa)(s:Wk×Wa)(x)(h:Xh s.1 x=So):Xh (l.foldl (λs t=>C9 tg m t s) s).1 x=So:=by
 induction l generalizing s with
 |nil=>exact h
 |cons t l a=>exact a _<|KB tg m t s x h
theorem Ei(tg:Yr)(m)(l:Wa)(s:Wk×Wa)(h:XA s.1):XA (l.foldl (λs t=>C9 tg m t s) s).1:=by
 induction l generalizing s with
 |nil=>exact h
 |cons t l a=>exact a _<|oW tg m t s h
theorem qE(tg:Yr){n}(a:∀b,b<n->∀t∈tg b,t<n):∀(m b:N)(s:Wk×Wa),b<n->J (C9 tg m b s).2+XB (C9 tg m b s).1 n<=J s.2+XB s.1 n
 |0,_,_,_=>aA
 |m+1,b,s,hb=>by
  rw[C9];split;·exact aA
  rename_i d;have e:Xh s.1 b=Sn:=by simpa using d
  have j:=Tb hb e;have i:∀(l:Wa)(s:Wk×Wa),(∀t∈l,t<n)->J (l.foldl (λs t=>C9 tg m t s) s).2+XB (l.foldl (λs t=>C9 tg m t s) s).1 n<=J s.2+XB s.1 n:=λl=>by
   induction l with
   |nil=>intro s _;exact aA
   |cons t l g=>
    intro s h;exact aJ (g _ λx f=>h x<|cN _ f) (qE tg a m t s<|h t cI)
  have c:=i (tg b) (YH s.1 b,s.2) (a b hb);rw[aQ];dsimp only at c |-;simp only[bA,bO];omega
theorem DF(tg:Yr)(c:∀b,b<n->∀t∈tg b,t<n)(m)(a:Wk×Wa)(h:∀t∈s,t<n):J (s.foldl (λa t=>C9 tg m t a) a).2+XB (s.foldl (λa t=>C9 tg m t a) a).1 n<=J a.2+XB a.1 n:=by
 induction s generalizing a with
 |nil=>exact aA
 |cons t s e=>exact aJ (e _ λx d=>h x<|cN _ d) (qE tg c m t a<|h t cI)
theorem nY{tg:Yr}{s:Wk×Wa}(h:Xh s.1 n=Sn):C9 tg (m+1) n s=(((tg n).foldl (λs t=>C9 tg m t s) (YH s.1 n,s.2)).1,((tg n).foldl (λs t=>C9 tg m t s) (YH s.1 n,s.2)).2++[n]):=by rw[C9,aM<|by rw[h];decide]
theorem Vd{tg:Yr}{s:Wk×Wa}(h:Xh s.1 m=So):C9 tg n m s=s:=by
 cases n with
 |zero=>rfl
 |succ n=>rw[C9,aU h]
inductive Sp (I_:N->N->N) (T:N->N->N) (ord:N->Prop) (src:N->List N):N->N->Prop
 |init {b x:N}:Xh (I_ b) x=So->Sp I_ T ord src b x
 |take {b s x:N}:ord b->s∈src b->Sp I_ T ord src s x->Xh (T b) x=Sn->Sp I_ T ord src b x
def ZB(T:Vp)(b s:N)(W:Vp):Vp:=λi=>if i=b then NR (W b) (W s) (T b)else W i
def E5(T:Vp)(K b:N)(l:Wa)(s:Vp×Bool):Vp×Bool :=
 l.foldl (λs t=>(ZB T b t s.1,Ix (s.1 b) (s.1 t) (T b) K||s.2)) s
theorem Ay{T K b}(h:n<J s)(a:Vp×Bool):E5 T K b (s.take<|n+1) a=(ZB T b s[n] (E5 T K b (s.take n) a).1,Ix ((E5 T K b (s.take n) a).1 b) ((E5 T K b (s.take n) a).1 s[n]) (T b) K||(E5 T K b (s.take n) a).2):=by unfold E5;rw[bN h,dT];rfl
def XQ(W:Vp):Prop:=∀i,XA<|W i
theorem Uc(b s)(h:XQ N_):XQ (ZB M b s N_):=λi=>by
 unfold ZB;split;·exact q8 (h b) (h s)
 exact h i
theorem Ts(b s)(h:XQ N_)(a:XQ M)(i x):Xh (ZB M b s N_ i) x=(Xh (N_ i) x||(Jd (i=b)&&Xh (N_ s) x&&!Xh (M b) x)):=by
 unfold ZB;by_cases e:i=b
 .subst e;rw[aU R,vD (h i) (a i)];simp
 rw[aM e];simp[e]
theorem TG{T:Vp}{K b:N}:∀(l:Wa)(s:Vp×Bool),XQ s.1->XQ (E5 T K b l s).1
 |[],_,h=>h
 |t::l,_,h=>TG l _<|Uc b t h
theorem JJ{T:Vp}{K b:N}(a:XQ T):∀(l:Wa)(s:Vp×Bool),XQ s.1->∀i x,Xh (s.1 i) x=So->Xh ((E5 T K b l s).1 i) x=So
 |[],_,_,_,_,h=>h
 |t::l,s,hs,i,x,h=>JJ a l _ (Uc b t hs) i x (by show Xh (ZB T b t s.1 i) x=So;rw[Ts b t hs a,h];rfl)
theorem T9{I_ T:Vp}{K b:N}{ord:Vv}{src:Yr}(c:XQ T)(d:ord b):∀(l:Wa)(s:Vp×Bool),XQ s.1->(∀t∈l,t∈src b)->(∀i x,Xh (s.1 i) x=So->Sp I_ T ord src i x)->∀i x,Xh ((E5 T K b l s).1 i) x=So->Sp I_ T ord src i x
 |[],_,_,_,h=>h
 |t::l,s,hs,hl,h=>T9 c d l _ (Uc b t hs) (λu g=>hl u<|cN _ g) (λi x j=>by
  have a:Xh (ZB T b t s.1 i) x=So:=j;rw[Ts b t hs c]at a;cases hi:Xh (s.1 i) x with
  |true=>exact h i x hi
  |false=>
   rw[hi]at a;simp only[jV,bY,bD,lV]at a;obtain⟨⟨rfl,e⟩,f⟩:=a;exact Sp.take d (hl t cI) (h t x e) f)
theorem WW{T:Vp}{K b:N}:∀(l:Wa)(s:Vp×Bool),s.2=So->(E5 T K b l s).2=So
 |[],_,h=>h
 |t::l,s,h=>WW l _<|by show(_||s.2)=So;rw[h];simp
theorem T6{T K b}(f:XQ T):∀(l:Wa)(s:Vp×Bool),XQ s.1->(E5 T K b l s).2=Sn->(∀i x,x<64*K->Xh ((E5 T K b l s).1 i) x=Xh (s.1 i) x)/\∀t∈l,∀x,x<64*K->Xh (s.1 t) x=So->Xh (T b) x=Sn->Xh (s.1 b) x=So
 |[],_,_,_=>⟨λ_ _ _=>R,λt p=>by cases p⟩
 |t::l,s,hs,hq=>by
  have k:(Ix (s.1 b) (s.1 t) (T b) K||s.2)=Sn:=by
   cases e:(Ix (s.1 b) (s.1 t) (T b) K||s.2)with
   |false=>rfl
   |true=>have:=WW (T:=T) (K:=K) (b:=b) l (ZB T b t s.1,Ix (s.1 b) (s.1 t) (T b) K||s.2) e;rw[show E5 T K b (t::l) s=E5 T K b l (ZB T b t s.1,Ix (s.1 b) (s.1 t) (T b) K||s.2)from R,this]at hq;cases hq
  have o:Ix (s.1 b) (s.1 t) (T b) K=Sn:=by
   cases e:Ix (s.1 b) (s.1 t) (T b) K with
   |false=>rfl
   |true=>rw[e]at k;cases k
  have j:∀x,x<64*K->Xh (s.1 t) x=So->Xh (T b) x=Sn->Xh (s.1 b) x=So:=λx a c d=>Eh (hs b) (f b) o a c d
  have g:∀i x,x<64*K->Xh (ZB T b t s.1 i) x=Xh (s.1 i) x:=λi x a=>by
   rw[Ts b t hs f];by_cases e:i=b
   .subst e;cases c:Xh (s.1 t) x with
    |false=>simp
    |true=>
     cases d:Xh (T i) x with
     |true=>simp
     |false=>rw[j x a c d];rfl
   simp[e]
  let⟨c,d⟩:=T6 f l (ZB T b t s.1,Ix (s.1 b) (s.1 t) (T b) K||s.2) (Uc b t hs) hq;refine⟨λi x a=>G (c i x a) (g i x a),λu h x a n m=>?_⟩;obtain rfl|h:=cH.1 h;·exact j x a n m
  have:=d u h x a (by rw[g u x a];exact n) m;rw[g b x a]at this;exact this
theorem UB{T K b}(a:XQ T):∀(l:Wa)(s:Vp×Bool),XQ s.1->s.2=Sn->(E5 T K b l s).2=So->XB ((E5 T K b l s).1 b) (64*K)<XB (s.1 b) (64*K)
 |[],s,_,h0,h1=>by rw[show E5 T K b [] s=s from R,h0]at h1;cases h1
 |t::l,s,hs,h0,h1=>by
  cases hg:Ix (s.1 b) (s.1 t) (T b) K with
  |false=>
   have f:E5 T K b (t::l) s=E5 T K b l (ZB T b t s.1,Sn):=by show E5 T K b l (ZB T b t s.1,Ix (s.1 b) (s.1 t) (T b) K||s.2)=_;rw[hg,h0];rfl
   rw[f]at h1 |-;refine aX (UB a l (ZB T b t s.1,Sn) (Uc b t hs) R h1) ?_;exact JY _ λx e=>by show Xh (ZB T b t s.1 b) x=So;rw[Ts b t hs a,e];rfl
  |true=>
   let⟨x,e,g,h,i⟩:=DV (hs b) (hs t) (a b) hg;have m:∀c:Wk,(∀y,Xh (s.1 b) y=So->Xh c y=So)->Xh c x=So->XB c (64*K)<XB (s.1 b) (64*K):=λc j k=>by
    have n:=Tb e i;have o:XB c (64*K)<=XB (YH (s.1 b) x) (64*K):=JY _ (λy d=>by
     rw[Z8]at d;cases hyx:Jd (y=x)with
     |true=>rw[fV hyx];exact k
     |false=>rw[hyx,jV]at d;exact j y d)
    omega
   refine m _ (λy d=>JJ a (t::l) s hs b y d) ?_;refine JJ a l (ZB T b t s.1,Ix (s.1 b) (s.1 t) (T b) K||s.2) (Uc b t hs) b x ?_;show Xh (ZB T b t s.1 b) x=So;rw[Ts b t hs a,g,h];simp
theorem TN{T:Vp}{K b i:N}(h:i≠b):∀(l:Wa)(s:Vp×Bool),(E5 T K b l s).1 i=s.1 i
 |[],_=>R
 |t::l,s=>G (TN h l _) (by show ZB T b t s.1 i=_;unfold ZB;rw[aM h])
theorem We{W:Vp}(c:∀m k,Xh (M m) k=So->Xh (W m) k=So)(e:∀m k,Xh (W m) k=So->Sp M N_ d D_ m k)(b:∀m,d m->∀t∈D_ m,∀k,k<64*n->Xh (W t) k=So->Xh (N_ m) k=Sn->Xh (W m) k=So)(a:k<64*n):Xh (W m) k=So↔Sp M N_ d D_ m k:=by
 refine⟨e m k,λh=>?_⟩
 induction h with
 |init h=>exact c _ _ h
 |take f g _ i j=>exact b _ f _ g _ a (j a) i
theorem Vl(h:∀x,x<n->Xh F x=Xh f x):XB F n=XB f n:=by unfold XB;congr 1;exact lW λx a=>by rw[h x<|bE.1 a]
def JI(W:N->N->N)(K:N):N->N
 |0=>0
 |n+1=>JI W K n+XB (W n) (64*K)
theorem Vo{W a:Vp}{K:N}:∀n,(∀i,i<n->XB (a i) (64*K)=XB (W i) (64*K))->JI a K n=JI W K n
 |0,_=>R
 |n+1,h=>by rw[JI,JI,Vo n λi b=>h i O,h n O]
theorem tx{W a:Vp}{K b}(c:∀i,i≠b->a i=W i)(d:XB (a b) (64*K)<XB (W b) (64*K)):∀n,b<n->JI a K n<JI W K n
 |0,h=>Sz h O
 |n+1,h=>by
  rw[JI,JI];by_cases e:n=b
  .subst e;rw[Vo n λi f=>by rw[c i O]];omega
  rw[c n e];have:=tx c d n O;omega
def PN(T:Vp)(K:N)(a:Yr)(W:Vp)(b:N):Prop:=∀t∈a b,∀x,x<64*K->Xh (W t) x=So->Xh (T b) x=Sn->Xh (W b) x=So
theorem Eg{a}(h:PN M n D_ N_ m)(e:∀i x,x<64*n->Xh (a i) x=Xh (N_ i) x):PN M n D_ a m:=λt f x c b d=>by rw[e _ _ c]at b |-;exact h t f x c b d
def Ov(T:Vp)(K:N)(a:Yr)(W:Vp)(b:Wa)(q p:N):Prop:=∀j,j<q->PN T K a W (b.getD ((p+J b-1-j)%J b) 0)
theorem Vz:Ov M n D_ N_ s 0 m:=λj a=>Sz a O
theorem Br{a}(h:Ov M n D_ N_ s m k)(e:∀i x,x<64*n->Xh (a i) x=Xh (N_ i) x)(b:k<J s)(c:PN M n D_ N_ s[k]):Ov M n D_ a s (m+1) (k+1):=λj d=>by
 refine Eg ?_ e;cases j with
 |zero=>
  have:(k+1+J s-1-0)%J s=k:=by rw[show k+1+J s-1-0=k+J s by omega,kH,jM b]
  rw[this,show s.getD k 0=s[k] by simp[b]];exact c
 |succ j=>
  rw[show k+1+J s-1-(j+1)=k+J s-1-j by omega];exact h j O
theorem Bj(h:Ov M n D_ N_ s m (J s))(hq:m<J s):Ov M n D_ N_ s m 0:=λj a=>by have:=h j a;rw[show J s+J s-1-j=(0+J s-1-j)+J s by omega,kH]at this;exact this
theorem B6(h:Ov M n D_ N_ s (J s) m)(e:m<=J s)(b:k∈s):PN M n D_ N_ k:=by
 obtain⟨i,a,rfl⟩:=bR b;have d:(m+J s-1-(m+J s-1-i)%J s)%J s=i:=by
  by_cases c:i+1<=m
  .have e1:(m+J s-1-i)%J s=m-1-i:=by
    rw[show m+J s-1-i=(m-1-i)+J s by omega,kH,jM O]
   rw[e1,show m+J s-1-(m-1-i)=i+J s by omega,kH,jM a]
  have e1:(m+J s-1-i)%J s=m+J s-1-i:=jM O;rw[e1,show m+J s-1-(m+J s-1-i)=i by omega,jM a]
 have:=h ((m+J s-1-i)%J s) (dS _ O);rw[d,show s.getD i 0=s[i] by simp[a]]at this;exact this
section
structure Cp(w:Ub)(g K C:N)(W:Wk):Prop where
 le:K<=C
 ex:∃T:Vu,w.rowIs g 221 C λi=>if i<K then Si .u64 (W i)else T i
namespace Cp
variable{w:Ub}{g K C:N}{W W':N->N}
theorem lt(h:Cp w g K C W):g<Z w.1:=by let⟨_,T,h⟩:=h;exact h.lt
theorem cell(h:Cp w g K C W){i:N}(a:i<K):E w (A g i)=S (Si .u64 (W i)):=by let⟨b,T,h⟩:=h;have:=h.cell (i:=i) O;rwa[aU a]at this
theorem frozen(h:Cp w g K C W)(i:N):w.frozen? (A g i)=Sn:=by let⟨_,T,h⟩:=h;exact h.frozen i
theorem congr(h:Cp w g K C W)(e:∀i,i<K->W i=W' i):Cp w g K C W':=by
 let⟨b,T,h⟩:=h;refine⟨b,T,h.congr λi _=>?_⟩;by_cases a:i<K;·rw[aU a,aU a,e i a]
 rw[aM a,aM a]
theorem of_block{a:Ub}(h:Cp w g K C W)(e:a.1[g]?=w.1[g]?):Cp a g K C W:=by let⟨b,T,h⟩:=h;exact⟨b,T,h.of_block e⟩
theorem set(h:Cp w g K C W)(i v:N)(b:i<K):Cp (Se w ⟨g,i,U⟩ (Si .u64 (v:I))) g K C (λj=>if j=i then v else W j):=by
 let⟨a,T,h⟩:=h;refine⟨a,T,(h.set i _).congr λj _=>?_⟩;by_cases e:j=i;·rw[aU e,aU O,aU e]
 rw[aM e,aM e]
theorem setOther(h:Cp w g K C W){a:Addr}(ha:g≠a.1)(v:Uj):Cp (Se w a v) g K C W:=by let⟨b,T,h⟩:=h;exact⟨b,T,h.setOther ha v⟩
theorem alloc(h:Cp w g K C W)(o:Obj):Cp (D w o) g K C W:=by let⟨a,T,h⟩:=h;exact⟨a,T,h.alloc o⟩
theorem drew(h:Cp w g K C W):Cp w.drew g K C W:=by let⟨a,T,h⟩:=h;exact⟨a,T,h.drew⟩
theorem of_row(h:w.rowIs g 221 K λi=>Si .u64 (W i)):Cp w g K K W :=
 ⟨aA,λ_=>Si .u64 0,h.congr λi a=>by rw[aU a]⟩
theorem to_row(h:Cp w g K K W):w.rowIs g 221 K (λi=>Si .u64 (W i)):=by let⟨_,T,h⟩:=h;exact h.congr λi a=>by rw[aU a]
theorem of_own{c:N}{v:Uj}{a:Wa}(h:Sx w c 221 1 v (J a) (a.map λx:N=>Si .u64 (x:I)))(p:v≠X U 0 0):∃g C,v=X (S ⟨g,0,U⟩) (J a) C/\c<=g/\Cp w g (J a) C (λi=>a.getD i 0):=by
 obtain⟨o,h|⟨g,k,b,rfl,m,n,l,_,f,j⟩⟩:=h;·exact Sz h.1 p
 simp only[iN]at o f j;refine⟨g,k,R,m,l,λi=>b[i]?.getD (Si .u64 0),b,n,f,λi q=>?_⟩;show b[i]?=S (if i<J a then Si .u64 ((a.getD i 0:N):I)else b[i]?.getD (Si .u64 0));by_cases e:i<J a
 .rw[aU e];have d:(b.1.take (J a))[i]?=S (Si .u64 (a[i]:N)):=by rw[j];simp[e]
  rw[fH e]at d;have e2:a.getD i 0=a[i]:=by simp[e]
  rw[e2];simpa using d
 rw[aM e];have:i<Z b:=O;simp[this]
end Cp
end
structure Mv where
 to:I
 frm:I
abbrev Wy:=List Mv
def an(L:Wy)(r:I):Bool:=L.any λm=>m.2==r
theorem yV{L}:an L t=So↔∃m∈L,m.2=t:=by simp[an]
def bj:List I->Option I
 |[]=>U
 |x::xs=>match bj xs with
  |none=>S x
  |some y=>S<|if x<y then x else y
theorem lj:bj l=U↔l=[]:=by
 cases l with
 |nil=>simp[bj]
 |cons x l=>
  simp only[bj];cases bj l<;>simp
theorem mq:∀{b:Wc}{y:I},bj b=S y->y∈b/\∀x∈b,y<=x
 |[],y,h=>by cases h
 |x::b,y,h=>by
  simp only[bj]at h;cases hl:bj b with
  |none=>
   rw[hl]at h;have e:=lj.1 hl;subst e;cases h;simp
  |some z=>
   rw[hl]at h;let⟨d,c⟩:=mq hl;simp only[Option.some.injEq]at h;split at h
   .subst h
    rename_i f;exact⟨cI,λu a=>by
     obtain rfl|a:=cH.1 a;·exact zP _
     have:=c u a;omega⟩
   subst h
   rename_i f;exact⟨cN _ d,λu a=>by
    obtain rfl|a:=cH.1 a;·omega
    exact c u a⟩
theorem pF(a:t∈l)(d:∀x∈l,t<=x):bj l=S t:=by
 cases h:bj l with
 |none=>rw[lj.1 h]at a;cases a
 |some z=>
  let⟨b,c⟩:=mq h;have e:=d z b;have f:=c t a;rw[show z=t by omega]
def ai(L:Wy):Wc:=L.map (·.1)
def fo(L:Wy):Wc:=(ai L).filter λt=>!an L t
def N3(m:Mv):Yg:=if m.2<0 then ⟨13,m.1,0,0,0⟩else ⟨11,m.1,m.2,0,0⟩
def pz(L:Wy)(t:I):I:=((L.find? λm=>m.1==t).map (·.2)).getD 0
def ff(L:Wy)(t:I):Wy:=L.filter λm=>m.1 != t
def scratch(L:Wy)(r:I):Wy:=L.map λm=>if m.2=r then ⟨m.1,-1⟩else m
def dm(L:List Mv):Yg×List Mv:=match bj (fo L)with
 |some t=>(N3 ⟨t,pz L t⟩,ff L t)
 |none=>match bj (ai L)with
  |some r=>(⟨12,0,r,0,0⟩,scratch L r)
  |none=>(⟨0,0,0,0,0⟩,[])
def ax:N->List Mv->List Yg
 |0,_=>[]
 |_+1,[]=>[]
 |k+1,m::L=>(dm (m::L)).1::ax k (dm (m::L)).2
theorem py:ax n []=[]:=by cases n<;>rfl
theorem px(k){L:Wy}(h:L≠[]):ax (k+1) L=(dm L).1::ax k (dm L).2:=by
 cases L with
 |nil=>exact Sz R h
 |cons m L=>rfl
theorem oC:∀(k:N)(L:Wy),J (ax k L)<=k
 |0,_=>aA
 |_+1,[]=>aN
 |k+1,m::L=>by have:=oC k (dm (m::L)).2;simp only[ax,bA];omega
structure b9(L:Wy):Prop where
 nd:(ai L).Nodup
 to:∀m∈L,0<=m.1/\m.1<64
 frm:∀m∈L,m.2=-1\/(0<=m.2/\m.2<64)
 ne:∀m∈L,m.2≠m.1
def dg(L:Wy):N:=J L+J (L.filter λm=>Jd (0<=m.2))
theorem b9.nil:b9 []:=⟨by simp[ai],sP,sP,sP⟩
theorem b9.without{L}(h:b9 L)(t):b9 (ff L t):=by refine⟨?_,λm a=>h.2 m (fG.1 a).1,λm a=>h.3 m (fG.1 a).1,λm a=>h.4 m (fG.1 a).1⟩;exact h.1.sublist<|List.filter_sublist.map _
theorem GL{L}:ai (scratch L t)=ai L:=by unfold ai scratch;rw[jO];refine gH λm _=>?_;show(if m.2=t then (⟨m.1,-1⟩:Mv)else m).1=m.1;split<;>rfl
theorem b9.scratch{L:Wy}(h:b9 L)(r:I):b9 (scratch L r):=by
 have c:∀m∈Go.Proofs.YthgmkangeikilaaGreatDoor.scratch L r,∃q∈L,m=(if q.2=r then ⟨q.1,-1⟩else q):=λm a=>by obtain⟨q,hq,e⟩:=aY.1 a;exact⟨q,hq,e.symm⟩
 refine⟨by rw[GL];exact h.1,λm a=>?_,λm a=>?_,λm a=>?_⟩<;>obtain⟨q,hq,rfl⟩:=c m a;·have:=h.2 q hq;split<;>exact this
 .split;·exact bC R
  exact h.3 q hq
 have d:=h.2 q hq;have b:=h.4 q hq;split;·show(-1:I)≠q.1;omega
 exact b
theorem b9.step{L}(h:b9 L):b9 (dm L).2:=by
 unfold dm;split;·exact h.without _
 split;·exact h.scratch _
 exact b9.nil
theorem GE{L}(b:t∈ai L):dg (ff L t)<dg L:=by
 unfold dg ff;have c:J (L.filter λm=>m.1 != t)<J L:=by refine List.length_filter_lt_length_iff_exists.2 ?_;let⟨m,a,e⟩:=aY.1 b;exact⟨m,a,by simp[e]⟩
 have d:J ((L.filter λm=>m.1 != t).filter λm=>Jd (0<=m.2))<=J (L.filter λm=>Jd (0<=m.2)):=(List.filter_sublist.filter _).length_le;omega
theorem GD(n:0<=t):∀{L:Wy},an L t=So->dg (scratch L t)<dg L:=by
 have j:∀L:Wy,J ((scratch L t).filter λm=>Jd (0<=m.2))<=J (L.filter λm=>Jd (0<=m.2))/\(an L t=So->J ((scratch L t).filter λm=>Jd (0<=m.2))<J (L.filter λm=>Jd (0<=m.2))):=λL=>by
  induction L with
  |nil=>simp[scratch,an]
  |cons m L i=>
   let⟨h,d⟩:=i;have e:scratch (m::L) t=(if m.2=t then ⟨m.1,-1⟩else m)::scratch L t:=R;have g:an (m::L) t=(m.2==t||an L t):=R;rw[e,g];by_cases c:m.2=t
   .rw[aU c];have:(Jd (0<=m.2))=So:=SB
    rw[sk (p:=λm:Mv=>Jd (0<=m.2)) sP,sC (p:=λm:Mv=>Jd (0<=m.2)) this];simp only[bA];exact⟨O,λ_=>O⟩
   rw[aM c];have f:(m.2==t)=Sn:=by simpa using c
   rw[f,jV];by_cases a:Jd (0<=m.2)=So
   .rw[sC (p:=λm:Mv=>Jd (0<=m.2)) a,sC (p:=λm:Mv=>Jd (0<=m.2)) a];simp only[bA];exact⟨O,λb=>by have:=d b;omega⟩
   rw[sk (p:=λm:Mv=>Jd (0<=m.2)) a,sk (p:=λm:Mv=>Jd (0<=m.2)) a];exact⟨h,d⟩
 intro L b;have k:=(j L).2 b;unfold dg;have l:J (scratch L t)=J L:=by simp[scratch]
 omega
theorem oE{L}:t∈fo L↔t∈ai L/\an L t=Sn:=by simp[fo]
theorem xK{L}(h:b9 L)(e:L≠[]):dg (dm L).2<dg L:=by
 unfold dm;split
 .rename_i t g;exact GE (oE.1 (mq g).1).1
 rename_i c;split
 .rename_i r a
  let⟨b,_⟩:=mq a;have f:an L r=So:=by
   cases hb:an L r with
   |true=>rfl
   |false=>
    have:r∈fo L:=oE.2 ⟨b,hb⟩;rw[lj.1 c]at this;cases this
  let⟨m,d,i⟩:=aY.1 b;exact GD (oN<|(h.2 m d).1) f
 rename_i a;have:=lj.1 a;exact Sz (List.map_eq_nil_iff.1 this) e
theorem pw:∀(k:N){L:Wy},b9 L->dg L<=k->ax k L=ax (dg L) L
 |0,L,_,hk=>by rw[show dg L=0 by omega]
 |k+1,L,h,hk=>by
  by_cases a:L=[];·subst a;rw[py,py]
  have d:=xK h a;let⟨j,b⟩:∃j,dg L=j+1:=⟨dg L-1,O⟩;rw[b,px k a,px j a,pw k h.step O];by_cases c:dg (dm L).2<=j
  .by_cases f:j<=k
   .have:=pw j h.step c;rw[this]
   have e:j=k:=O;rw[e,pw k h.step O]
  omega
theorem If{L}(h:b9 L)(a:L≠[]):ax (dg L) L=(dm L).1::ax (dg (dm L).2) (dm L).2:=by have c:=xK h a;let⟨j,b⟩:∃j,dg L=j+1:=⟨dg L-1,O⟩;rw[b,px j a,pw j h.step O]
def ly(a:Wy)(m:Mv):Bool:=Jd (0<=m.1/\m.1<64/\0<=m.2/\m.2<64)&&!a.any λq=>q.1==m.1
def gy:List Mv->List Mv->Bool
 |_,[]=>So
 |pre,m::r=>ly pre m&&gy (pre++[m]) r
def bw(L:Wy):Bool:=Jd (J L<=64)&&gy [] L
def bu(L:Wy):Wy:=L.filter λm=>m.1 != m.2
def dp(L:Wy):Vr:=if bw L=So then ax (2*J (bu L)) (bu L)else []
structure iP(L:Wy):Prop where
 nd:(ai L).Nodup
 rng:∀m∈L,0<=m.1/\m.1<64/\0<=m.2/\m.2<64
theorem iP.snoc{L}(h:iP L){m}(b:ly L m=So):iP (L++[m]):=by
 simp only[ly,bY,bD,lV]at b;let⟨c,d⟩:=b;refine⟨?_,λq hq=>?_⟩
 .unfold ai;rw[bG,gW];refine⟨h.1,sP,λf ha g a=>?_⟩;simp only[eH,fZ,cS]at a;subst a;intro e;subst e;let⟨q,hq,e⟩:=aY.1 ha;have:=List.any_eq_false.1 d q hq;simp[e]at this
 obtain hq|hq:=bU.1 hq;·exact h.2 q hq
 rw[cS.1 hq];exact c
theorem xN:∀(r a:Wy),iP a->gy a r=So->iP (a++r)
 |[],a,h,_=>by rw[fF];exact h
 |m::r,a,h,hg=>by simp only[gy,bY]at hg;have:=xN r (a++[m]) (h.snoc hg.1) hg.2;simpa using this
theorem iP.start{L}(h:iP L):b9 (bu L)/\dg (bu L)=2*J (bu L):=by
 have b:∀m∈bu L,m∈L/\m.1≠m.2:=λm a=>by simpa [bu]using a
 refine⟨⟨h.1.sublist<|List.filter_sublist.map _,λm a=>?_,λm a=>?_,λm a=>?_⟩,?_⟩;·have:=h.2 m (b m a).1;omega
 .have:=h.2 m (b m a).1;omega
 .exact λe=>(b m a).2 e.symm
 unfold dg;rw[List.filter_eq_self.2 λm a=>by have:=h.2 m (b m a).1;simp;omega];omega
theorem rK{L}(h:bw L=So):J L<=64/\iP L:=by simp only[bw,bY,bD]at h;exact⟨h.1,by simpa using xN L [] ⟨by simp[ai],sP⟩ h.2⟩
def gj(w:Ub)(L B:N)(c:Uy)(a:Wy):Prop:=∀i (h:i<J a),∃b o,c=S ⟨b,o,U⟩/\(L<=b/\b<B)/\E w ⟨b,o+i*2,U⟩=S (Si S6 a[i].1)/\E w ⟨b,o+i*2+1,U⟩=S (Si S6 a[i].2)
theorem gj.keepS{w' c}(h:gj w n m p c)(k:YA n m w w'):gj w' n m p c:=λi g=>by let⟨b,o,e,a,d,f⟩:=h i g;have q:=k b a.1 a.2;exact⟨b,o,e,a,G (Xc q) d,G (Xc q) f⟩
theorem gj.keep{w':Ub}{a}(h:gj w n m p a)(k:Sw m w w'):gj w' n m p a:=h.keepS<|ZU k
theorem xZ{a:Wy}(h:n<J a):gy (a.take n) (a.drop n)=(ly (a.take n) a[n]&&gy (a.take<|n+1) (a.drop<|n+1)):=by rw[gZ h,gy,kJ,aC h];rfl
theorem I4(c){a}(ha:Q (gj w m k p a))(r:Q (n=J a))(hn:n<=1048576)(hB:k<=Z w.1):
 Sk prog 157 #[X p n c] w λg w'=>g=Rt (Sb (bw a))/\Sw (Z w.1) w w':=by
 by_cases ad:64<n
 .have v:Q (bw a=Sn):=Y (by unfold bw;have:=r.o;simp;intro l;omega)
  go_in
  go_wp2;go_ret;exact⟨by rw[v.o];rfl,Rf⟩
 have v:Q (bw a=gy [] a):=Y (by unfold bw;have:=r.o;simp;omega)
 go_in
 go_wp2
 go_loopw [3] (λF wr=>∃j:N,j<=n/\F=H j/\Q (Sw (Z w.1) w wr)/\Q (bw a=gy (a.take j) (a.drop j))) λF _=>n-(JB F).toNat
 .exact⟨0,aN,R,Y<|Rf,Y<|by rw[v.o];rfl⟩
 obtain⟨j,hj,rfl,d,i⟩:=hrel;by_cases af:j<n;rotate_left
 .have V:j=n:=O
  subst V;have f:Q (bw a=So):=Y (by rw[i.o,mP<|oN r.o];rfl)
  go_wp2;go_ret;exact⟨by rw[f.o];rfl,d⟩
 have L:j<J a:=oN r.o
 obtain⟨W,aa,rfl,ac,y,F_⟩:=ha j L;have e0:=G (XU d O) y;have e1:=G (XU d O) F_;have x:=Y<|xZ L;have s:Q (ly (a.take j) a[j]=(Jd (0<=a[j].1/\a[j].1<64/\0<=a[j].2/\a[j].2<64)&&!(a.take j).any λq=>q.1==a[j].1)):=Y R;have L_:Q (∀q,q<j->∃hq:q<J a,E w (A W<|aa+q*2)=S (H a[q].1)):=Y (λq hq=>by have M:q<J a:=O;let⟨b',o',g,_,K,_⟩:=ha q M;cases g;exact⟨M,K⟩)
 have P_:=Y y;generalize V_:a[j]=Z_ at*;let⟨t,h⟩:=Z_;dsimp only at*;by_cases C:0<=t/\t<64/\0<=h/\h<64
 .let⟨r1,r2,r3,r4⟩:=C;go_wp2
  go_loopw [4] (λu ab=>∃q:N,q<=j/\u=H q/\Q (Sw (Z w.1) w ab)/\Q (∀b (_:b<J a),b<q->a[b].1≠t)) λu _=>j-(JB u).toNat
  .exact⟨0,aN,R,d,Y λb _ o=>Sz o O⟩
  obtain⟨q,hq,rfl,e,P⟩:=hrel;have f0:=G (XU e O) P_;by_cases X_:q<j
  .let⟨al,G_⟩:=L_ q X_;have R_:=G (XU e O) G_;by_cases B:a[q].1=t
   .have f:Q (bw a=Sn):=Y (by
     rw[i.o,x.o,s.o];have:(a.take j).any (λz=>z.1==t)=So:=List.any_eq_true.2 ⟨a[q],List.mem_take_iff_getElem.2 ⟨q,O,R⟩,by simp[B]⟩;rw[this];simp)
    rw[B]at R_;go_wp2;go_region;go_wp2;go_ret;exact⟨by rw[f.o];rfl,e.drew⟩
   have N_:=Y B;generalize K_:a[q].1=u at*;have O_:=Y K_;go_wp2;go_region
   go_wp2;exact⟨⟨q+1,O,gM,Y e.drew,Y (λb o aj=>by
    by_cases g:b=q;·subst g;rw[O_.o];exact N_
    exact P b o O)⟩,SA⟩
  have W_:q=j:=O
  subst W_;have M_:Q (bw a=gy (a.take<|q+1) (a.drop<|q+1)):=Y (by
   rw[i.o,x.o,s.o];have K:(a.take q).any (λz=>z.1==t)=Sn:=List.any_eq_false.2 (λz Y_=>by obtain⟨b,o,rfl⟩:=List.mem_take_iff_getElem.1 Y_;have:=P b O O;simpa using this)
   rw[K];simp[r1,r2,r3,r4])
  go_wp2;exact⟨⟨q+1,O,gM,e,M_⟩,SA⟩
 have f:Q (bw a=Sn):=Y (by rw[i.o,x.o,s.o];simp[C])
 have T_:t<0\/(0<=t/\64<=t)\/(0<=t/\t<64/\h<0)\/(0<=t/\t<64/\0<=h/\64<=h):=O;obtain l|⟨l,T⟩|⟨l,T,S_⟩|⟨l,T,S_,hD⟩ :=T_<;>
  (go_wp2;go_ret;exact⟨by rw[f.o];rfl,d⟩)
theorem JR(c r){a}(ha:Q (gj w k B p a))(t:Q (n=J a))(V:n<=1048576)(K:m<n)(M:Q (∀q (_:q<J a),q=m->a[q].2≠r)):
 Sk prog 190 #[X p n c,H m,H r] w λe F=>e=Rt (Sb (an a r))/\F=w:=by
 go_in
 go_wp2
 go_loopw [7] (λu wr=>∃j:N,j<=n/\u=H j/\wr=w/\Q (∀b (_:b<J a),b<j->a[b].2≠r)) λu _=>n-(JB u).toNat
 .exact⟨0,aN,R,R,Y λb _ f=>Sz f O⟩
 obtain⟨j,L,rfl,rfl,i⟩:=hrel;by_cases W:j<n
 .have g:j<J a:=oN t.o
  obtain⟨G_,R_,rfl,I_,H_,e1⟩:=ha j g;have l:Q (a[j].2≠r->∀b (_:b<J a),b<j+1->a[b].2≠r):=Y (λh b f P_=>by
   by_cases e:b=j;·subst e;exact h
   exact i b f O)
  have P:Q (a[j].2=r->an a r=So):=Y λh=>yV.2 ⟨a[j],aH g,h⟩;have y:=Y<|M.o j g;generalize a[j].2=o at*;by_cases s:j=m
  .have d:=y s;subst s;go_wp2;exact⟨⟨j+1,O,gM,(by first|rfl|trivial),Y<|l.o d⟩,SA⟩
  have M_:¬((j:I)=m):=O;by_cases d:o=r
  .have z:=Y<|P.o d;subst d;go_wp2;go_ret;exact⟨by rw[z.o];rfl,R⟩
  have J_:(o==r)=Sn:=by simpa using d
  have x:=Y<|l.o d;go_wp2;exact⟨⟨j+1,O,gM,(by first|rfl|trivial),x⟩,SA⟩
 have C:j=n:=O
 subst C;have v:Q (an a r=Sn):=Y (by
  cases hb:an a r with
  |false=>rfl
  |true=>
   let⟨Q_,T,e⟩:=yV.1 hb;obtain⟨b,f,rfl⟩:=bR T;exact Sz e<|i b f (oN t.o))
 go_wp2;go_ret;exact⟨by rw[v.o];rfl,R⟩
def XR(w:Ub)(L B:N)(d:Uy)(a:Tm):Prop :=
 ∀i (h:i<J a),∃b o,d=S ⟨b,o,U⟩/\(L<=b/\b<B)/\∃c e,E w ⟨b,o+i,U⟩=S (X c (J a[i]) e)/\Xf w L B c a[i]
theorem XR.keepS{w' c}(h:XR w n m p c)(k:YA n m w w'):XR w' n m p c:=λl j=>by let⟨b,o,f,a,d,e,g,i⟩:=h l j;exact⟨b,o,f,a,d,e,G (Xc<|k b a.1 a.2) g,i.keepS k⟩
theorem XR.keep{w':Ub}{a}(h:XR w n m p a)(k:Sw m w w'):XR w' n m p a:=h.keepS<|ZU k
theorem XR.mono{a}(h:XR w n m p a)(o:k<=n)(l:m<=B):XR w k B p a:=λj i=>by let⟨c,q,e,r,b,d,f,g⟩:=h j i;exact⟨c,q,e,O,b,d,f,g.mono o l⟩
def YT(w:Ub)(b n:N)(P:Tj)(a:Vu):Prop :=
 w.rowIs b 23 n a/\(∀i,i<n->Sx w (b+1) 2 1 (a i) (J (P i)) ((P i).map (Si S6)))/\(∀i j,i<n->j<n->i≠j->(a i).ownBlock=U\/(a i).ownBlock≠(a j).ownBlock)
theorem YT.alloc{P}(a:YT w n m P h)(o):YT (D w o) n m P h:=⟨a.1.alloc o,λi b=>(a.2.1 i b).alloc o,a.2.2⟩
theorem YT.below{P}(a:YT w n m P h)(k:Sw (Z w.1) w v):YT v n m P h:=by refine⟨a.1.of_block<|k.5 _ a.1.lt,λi d=>?_,a.2.2⟩;refine(a.2.1 i d).kept (row:=U) ⟨k.1,k.2,k.3,k.4,λb c _=>k.5 b c⟩ ?_;cases (h i).ownBlock<;>simp
theorem YT.congr{P P'}(a:YT w n m P h)(e:∀i,i<m->P i=P' i):YT w n m P' h :=
 ⟨a.1,λi b=>by rw[<-e i b];exact a.2.1 i b,a.2.2⟩
theorem YT.step{P}(a:YT w n m P h)(s:k<m)(x)(d:Uj)(r:w.grownBy v (h k).ownBlock)(u:Sx v (n+1) 2 1 d (J (P k)+1) ((P k).map (Si S6)++[Si S6 x]))(p:d.ownBlock=(h k).ownBlock\/d.ownBlock=S (Z w.1)):
 YT (Se v ⟨n,k,U⟩ d) n m (λi=>if i=k then P k++[x]else P i) (λi=>if i=k then d else h i):=by
 have y:=a.1.of_block (r.5 _ a.1.lt λe=>by have:=((a.2.1 k s).lt _ e.symm).1;omega);refine⟨y.set k d,λi b=>?_,λi j b g f=>?_⟩
 .refine ke ?_ SG _;by_cases e:i=k
  .subst e;simp only[gG,aQ,bA,bO,bG,eH,fZ];exact u
  simp only[e,fD];exact(a.2.1 i b).kept r (a.2.2 i k b s e)
 have fresh:∀c,c<m->(h c).ownBlock=U\/(h c).ownBlock≠S (Z w.1):=λc t=>by
  by_cases e:(h c).ownBlock=S (Z w.1);·have:=((a.2.1 c t).lt _ e).2;omega
  exact aZ e
 by_cases e1:i=k
 .subst e1;have e2:¬j=i:=λe=>f e.symm;simp only[gG,e2,fD];obtain q|q:=p;·rw[q];exact a.2.2 i j b g f
  right
  rw[q];intro o;obtain l|l:=fresh j g;·rw[l]at o;cases o
  exact l o.symm
 simp only[e1,fD];by_cases e2:j=k
 .subst e2;simp only[gG];obtain q|q:=p;·rw[q];exact a.2.2 i j b g f
  rw[q];exact fresh i b
 simp only[e2,fD];exact a.2.2 i j b g f
theorem YT.ints{P}(a:YT w n m P h):XR w n (Z w.1) (S ⟨n,0,U⟩) ((Rg m).map P):=λi b=>by
 simp only[bK,gI]at b;let⟨d,c,e,ha⟩:=Xk<|a.2.1 i b;refine⟨n,0,R,⟨aA,a.1.lt⟩,d,c,?_,?_⟩
 .simp only[cM,dW,aV];rw[a.1.cell b,e]
 simp only[cM,dW];exact ha.mono O<|aA
theorem RG:(prog.info? 23).map (λi=>(i.8,i.3,i.4))=S (S Hq,1,24):=vZ
theorem YT.born(w:Ub)(n):YT (D w<|Sc (madeCells #[X U 0 0] n) 23) (Z w.1) n (λ_=>[]) (λ_=>X U 0 0) :=
 ⟨dG _ _ _ _,λ_ _=>dA,λ_ _ _ _ _=>bC R⟩
def mp(a:Wi)(n:N):Prop:=∀x∈a,(∀t∈x.3.tg,0<=t/\t<(n:I))/\x.3.tg.Nodup
def Yk(b:Wi)(k:N)(a:Wc)(i:N):Wc:=AQ (b.take k) 0 i++(if a.contains (i:I)then [(k:I)]else [])
theorem J5:Yk x n [] m=AQ (x.take n) 0 m:=by simp[Yk]
theorem TD(i)(a:n<J x):Yk x n x[n].3.tg i=AQ (x.take<|n+1) 0 i:=by unfold Yk;rw[X7 a,ZK];simp[jZ<|dU a]
theorem Uu(a k i)(h:(n:I)∉l):Yk a k (l++[(n:I)]) i=if i=n then Yk a k l n++[(k:I)]else Yk a k l i:=by
 unfold Yk;by_cases e:i=n
 .subst e;simp[h]
 have b:(l++[(n:I)]).contains i=l.contains (i:I):=by
  rw[eQ];simp only[eY,bU,cS];constructor
  .rintro(h|h);·exact h
   omega
  exact bC
 rw[aM e,b]
theorem UW(a:Wi)(k i b)(h:k<=J a):J (Yk a k b i)<=k+1:=by unfold Yk;have:=YO i (a.take k) 0;simp only[dH]at this;rw[aQ];split<;>simp<;>omega
theorem KF(ab c_)(ha:Q (Xp w m k p x))(L:Q (n=J x))(hn:n<=1048576)(hB:k<=Z w.1)(e:Q (mp x n)):
 Sk prog 70 #[Sa #[H ab,X p n c_]] w λf w'=>∃c,f=Rt (Hl (Z w.1+1) n n)/\Sw (Z w.1) w w'/\YT w' (Z w.1+1) n (λi:N=>AQ x 0 (i:I)) c:=by
 have bp:=fM (P:=prog) 136 23 Hq 24 underlying136 RG R S6 S6 n O O
 go_in
 go_wp2
 go_loopw [15] (λi wr=>∃a:N,a<=n/\i=H a/\Sw (Z w.1) w wr/\Q (∃c,YT wr (Z w.1+1) n (Yk x a []) c)) λi _=>n-(JB i).toNat
 .exact⟨0,aN,R,Xb (Xb Rf _) _,⟨_,by have:=YT.born (D w<|Sc #[H ab,X p n c_] 45) n;rw[aO]at this;exact this⟩⟩
 obtain⟨a,hk,rfl,y,v⟩:=hrel;by_cases bo:a<n;rotate_left
 .go_wp2;go_ret;obtain⟨c,d⟩:=v.o;have f:=aW (l:=x) (i:=a) (oN L.o);exact⟨c,R,y,d.congr (P':=λi:N=>AQ x 0 i) λi _=>by rw[J5,f]⟩
 have F:a<J x:=oN L.o;obtain⟨bf,b1,rfl,⟨_,bi⟩,R_⟩:=ha a F;obtain⟨pa,pc,ia,ic,e0,e1,⟨e2,e3,e4,e5⟩,_,_⟩:=R_.keep (y.mono hB) O;have a7:=Y λi=>TD i F;obtain⟨S_,T_⟩:=e _<|aH F;have af:=Y S_;have aj:=Y T_;clear R_ S_ T_;generalize x[a]=P at*;go_wp2_with fail
 refine(J4 P.3 _).mono ?_;rintro f o⟨a1,c1,rfl,P_,V_⟩;have Q_:=Xg (Xb (dC (Z wr.1) wr) _) P_;have bb:=P_.4;simp at bb;have bx:Z wr.1<Z o.1:=O;have N_:=Y V_;have bh:Z w.1+1<Z wr.1:=by obtain⟨c,d⟩:=v.o;exact d.1.lt
 have HR:Q (∃c,YT o (Z w.1+1) n (Yk x a []) c/\∀i g,i<n->(c i).ownBlock=S g->g<=Z wr.1\/Z o.1<=g):=by obtain⟨c,d⟩:=v.o;exact⟨c,d.below Q_,λi g u e=>by have:=((d.2.1 i u).lt g e).2;omega⟩
 have HW:=Y<|Xg y Q_;have bv:J P.3.tg<=2:=by unfold Yj.tg;split<;>(try split)<;>simp
 generalize hT:P.3.tg=b at*;clear hT V_ v e0 e1 e2 e3 e4 e5 y;simp only[aO]at N_;generalize hM:Z wr.1=M at*;clear hM;go_wp2
 go_loopw [24] (λi s=>∃j:N,j<=J b/\i=H j/\Sw (Z w.1) w s/\Z o.1<=Z s.1/\Q (Xf s (M+1) (Z o.1) a1 b)/\Q (∃c,YT s (Z w.1+1) n (Yk x a<|b.take j) c/\∀i g,i<n->(c i).ownBlock=S g->g<=M\/Z o.1<=g)) λi _=>J b-(JB i).toNat
 .exact⟨0,aN,R,HW,aA,N_,HR⟩
 obtain⟨j,s_,rfl,K,br,W_,T⟩:=hrel;by_cases V:j<J b
 .obtain⟨b',o',rfl,_,bm⟩:=W_ j V
  obtain⟨a4,bt⟩:=af _<|aH V;have a2:Q (b[j]∉b.take j):=by intro hm;obtain⟨b0,a0,Y_⟩:=bR hm;simp only[dH]at a0;rw[jG]at Y_;have:=(List.getElem_inj aj).1 Y_;omega
  have a5:Q (b.take (j+1)=b.take j++[b[j]]):=X7 V;obtain⟨c,d,O_⟩:=T.o;have B:=Y O_;clear O_;obtain⟨t,a6⟩:=bX a4;generalize b[j]=be at*;subst a6;have l:t<n:=O;have ao:=d.1.cell l;have ap:=d.1.frozen t;have bq:=UW x a t (b.take j) (oN L.o);have h:=Y d;clear d T;go_wp2_with (at_builtin;refine YC RH (h.2.1 t l) ?_ (hs:=oN h.1.lt))
  intro v1 z W q _ C;obtain⟨av,cv,J_,_⟩:=Xk (xs:=Yk x a (b.take j) t++[(a:I)]) (by rw[Yl];exact W);have a3:=Y ((h.alloc<|Sc #[H a] 2).step l a v1 q W (by rw[aO];exact C));have D_:z.1[Z w.1+1]?=(D wr<|Sc #[H a] 2).1[Z w.1+1]?:=YJ q ((h.alloc<|Sc #[H a] 2).2.1 t l) O (by have:=h.1.lt;simp;omega);have al:=Y (Xy (Xb K<|Sc #[H a] 2) q ((h.alloc<|Sc #[H a] 2).2.1 t l) O (by have:=K.4;simp;omega));have bl:E z (A (Z w.1+1) t)=S (c t):=by rw[Xc D_];exact((h.alloc<|Sc #[H a] 2).1).cell l
  have bn:z.frozen? (A (Z w.1+1) t)=Sn:=by rw[bJ (w:=D wr<|Sc #[H a] 2) (a:=(A (Z w.1+1) t)) D_];exact((h.alloc<|Sc #[H a] 2).1).frozen t
  have aq:=q.4;simp at aq;have I_:YA (M+1) (Z o.1) wr z:=λr q1 q2=>G (q.5 r SB λf=>by have:=B t r l f.symm;omega) (gF _ _ _ O);have bd:=Y I_;have az:=Y<|W_.keepS I_;have ad:=Y C;have HV:=Y J_;clear I_;clear W q C D_ ao ap;rw[J_];clear J_;go_wp2;have aa:=HV.o;rw[aQ,bA,bO,aV]at aa;rw[<-aa];refine⟨⟨j+1,O,gM,al.setCell SG _,SF,az.keepS ((YA.refl _ _ _).setCell (bC<|by dsimp only;omega) _),⟨_,(a3).congr λi _=>?_,λi g u e=>?_⟩⟩,SA⟩;·rw[a5.o,Uu x a i a2.o]
  by_cases f:i=t
  .subst f;simp only[gG]at e;obtain r|r:=ad.o;·exact B i g u<|by rw[<-r];exact e
   rw[r]at e;have:=gQ e;omega
  simp only[f,fD]at e;exact B i g u e
 have ac:=Y<|aW (l:=b) (i:=j) O;go_wp2;refine⟨⟨a+1,O,gM,K,?_⟩,SA⟩;obtain⟨c,d,_⟩:=T.o;exact⟨c,d.congr λi _=>by rw[ac.o,a7.o,J5]⟩
theorem VG(v c L B)(ha:Q (Xp w L B p x))(k:Q (n=J x))(j:n<=1048576)(f:B<=Z w.1)(i:Q (mp x n)):
 Sk prog 70 #[Sa #[H v,X p n c]] w λe a=>∃b d,e=Rt (X b n d)/\Sw (Z w.1) w a/\XR a (Z w.1) (Z a.1) b ((Rg n).map λl:N=>AQ x 0 (l:I)) :=
 (KF v c ha k j f i).mono (by rintro e a⟨o,rfl,g,h⟩;exact⟨_,_,R,g,h.ints.mono O<|aA⟩)
theorem Zr(d:I->N->Ph->Bool)(F):∀(b:Wi)(a:N),Zi d F b a=So↔∀j (h:j<J b),b[j].1.all (d F.1 (J (F.preds ((a+j:N):I))))=So
 |[],_=>by simp[Zi]
 |x::b,a=>by
  simp only[Zi,bY,Zr d F b<|a+1];constructor
  .rintro⟨f,g⟩ j c;cases j with
   |zero=>exact f
   |succ j=>
    have:=g j SK;have e:a+1+j=a+(j+1):=O;rw[e]at this;exact this
  intro h;refine⟨h 0 sP,λj c=>?_⟩;have:=h (j+1) SK;have e:a+1+j=a+(j+1):=O;rw[e];exact this
theorem Wg(a:I->N->Ph->Bool)(F)(c:k<J F.2)(h:F.2[k].1.all (a F.1 (J (F.preds (k:I))))=Sn):Zi a F F.2 0=Sn:=by rw[lY];intro b;have:=(Zr a F F.2 0).1 b k c;rw[aV,h]at this;cases this
theorem AG(ha:Q (Xp w m k p x))(M:Q (n=J x))(hn:n<=1048576)(hl:Q (∀ap∈x,J ap.1<=1048576/\∀bb∈ap.1,J bb.2<=1048576))(W_:k<=Z w.1)(hg:Q (mp x n)):
 Sk prog 115 #[Sa #[H t,X p n c]] w λg w'=>g=Rt (Sb (KL ⟨t,x⟩))/\Sw (Z w.1) w w':=by
 go_in
 go_wp2_with fail
 refine(VG t c m k ?q1 M hn ?q2 hg).mono ?_
 case q1=>exact ha.keep (Xb Rf _ |>.mono W_)
 case q2=>simp;omega
 rintro g o⟨pa,pc,rfl,z,ao⟩;have W:=Xg (Xb (dC (Z w.1) w) _) z;have a9:=z.4;simp at a9;let⟨K,a1⟩:=NC z;have k0:E o (A (Z w.1) 0)=S (H t):=by rw[K _ _ sP];simp
 have k1:E o (A (Z w.1) 1)=S (X p n c):=by rw[K _ _ sP];simp
 have HA:=Y<|ha.keep (W.mono W_);have a0:=Y ao;have r:=Y W;clear K a1 ao z ha W;go_wp2
 go_loopw [15] (λi wr=>∃a:N,a<=n/\i=H a/\Sw (Z o.1) o wr/\Q (∀j (h:j<J x),j<a->x[j].1.all (ZX t (J (AQ x 0 j)))=So)) λi _=>n-(JB i).toNat
 .exact⟨0,aN,R,Rf,λj _ h=>Sz h O⟩
 obtain⟨a,hk,rfl,d,Z_⟩:=hrel;by_cases a3:a<n;rotate_left
 .go_wp2;go_ret
  exact⟨Xl (by symm;exact(Zr ZX ⟨t,x⟩ x 0).2 λj B=>by rw[aV];exact Z_ j B<|oN M.o),Xg r d⟩
 have L:a<J x:=oN M.o;obtain⟨bd,bt,rfl,⟨_,bh⟩,hc⟩:=HA a L;let⟨bv,bx,ia,ic,R_,d1,⟨d2,d3,d4,d5⟩,hp,_⟩:=hc;have e0:=G (XU d O) R_;have e1:=G (XU d O) d1;have e2:=G (XU d O) d2;have e3:=G (XU d O) d3;have e4:=G (XU d O) d4;have e5:=G (XU d O) d5;let⟨bn,aj⟩:=hl _<|aH L;have az:=Y aj;have a4:Q (x[a].1.all (ZX t (J (AQ x 0 a)))=Sn->KL ⟨t,x⟩=Sn):=λh=>Wg ZX ⟨t,x⟩ (k:=a) L h;have al:a<J ((Rg n).map λi:N=>AQ x 0 i):=by simpa using a3
 obtain⟨gb,go,rfl,⟨_,bl⟩,a',c',u,a2⟩:=a0 a al;simp only[cM,dW]at u;have HP:=Y hp;have bo:J (AQ x 0 a)<=1048576:=oP (YO a x 0) M.o
 have aq:=Y u;have br:=d.4;have a6:Q (x[a].1.all (ZX t (J (AQ x 0 a)))=So->∀j (h:j<J x),j<a+1->x[j].1.all (ZX t (J (AQ x 0 j)))=So) :=
  λh j B bm=>if g:j=a then by subst g;exact h else Z_ j B O
 clear hp aj u a2 al R_ d1 d2 d3 d4 d5;generalize x[a]=F at*;generalize AQ x 0 a=e at*;go_wp2;generalize Y_:Z wr.1=bc at*;have HM:=Y Y_;clear Y_
 go_loopw [23] (λi wi=>∃j:N,j<=J F.1/\i=H j/\Sw (Z o.1) o wi/\Q ((F.1.take j).all (ZX t (J e))=So)) λi _=>J F.1-(JB i).toNat
 .exact⟨0,aN,R,Xb d _,R⟩
 obtain⟨j,B,rfl,b,ab⟩:=hrel;have u:=G (XU b O) aq;have ba:=G (XU b O) k0;by_cases C:j<J F.1;rotate_left
 .go_wp2;exact⟨⟨a+1,O,gM,b,Xw a6<|YE (xs:=F.1) (k:=j) O ab⟩,SA⟩
 obtain⟨b',o',rfl,⟨_,bi⟩,O_,Q_,S_,T_,hi⟩:=HP j C;have e6:=G (XU b O) S_;have e7:=G (XU b O) T_;have be:=az _<|aH C;have T:=Y λh=>Xw a4<|JN (p:=ZX t (J e)) (xs:=F.1) (k:=j) C h;have a7:=Y λh=>XY (p:=ZX t (J e)) C ab h;have ar:=Y hi;clear S_ T_ hi;generalize F.1[j]=P at*;have bp:Z w.1<Z wr.1:=oN b.4;have bq:gb<Z wr.1:=oN b.4;have v:Q (ZX t (J e) P=(Tp So P.1 0 t&&(Jd (1<=J P.2)&&Jd (J P.2=J e)&&P.2.all (To 0 t)))):=R;cases hf:Tp So P.1 0 t
 .have s:=Y hf;go_wp2
  go_quiet ((go_at_call 146;exact Calls.quiet_of_same<|Yp))
  go_wp2;go_ret;exact⟨Xl (Xw T<|by rw[v.o,s.o];rfl).symm,Xg r<|iX (Xb b _) _⟩
 have s:=Y hf;by_cases l:J P.2=0
 .have U_:((J P.2:I)==0)=So:=by simp[l]
  have G_:=Y l;clear l;go_wp2
  go_quiet ((go_at_call 146;exact Calls.quiet_of_same<|Yp))
  go_wp2;go_ret;exact⟨Xl (Xw T<|by rw[v.o,s.o,G_.o];rfl).symm,Xg r<|iX (Xb b _) _⟩
 have U_:((J P.2:I)==0)=Sn:=by rw[iS];omega
 have G_:=Y l;clear l;by_cases f:J P.2=J e
 .have V_:((J P.2:I) != (J e:I))=Sn:=by simp[f]
  have H_:=Y f;clear f;go_wp2
  go_quiet ((go_at_call 146;exact Calls.quiet_of_same<|Yp))
  go_wp2;have V:=iX (Xb b<|Sc #[H P.1,X O_ (J P.2) Q_] 83) nq;generalize (D wr<|Sc #[H P.1,X O_ (J P.2) Q_] 83).drewN nq=w9 at*;have r0:=G (XU V O) k0;clear hf U_ V_ u ba e6 e7
  go_loop [53] (λi=>∃q:N,q<=J P.2/\i=H q/\Q ((P.2.take q).all (To 0 t)=So)) λi=>J P.2-(JB i).toNat
  .exact⟨0,aN,R,R⟩
  obtain⟨q,hq,rfl,ac⟩:=hrel;by_cases M_:q<J P.2
  .obtain⟨b2,o2,rfl,⟨_,bf⟩,ad⟩:=ar q M_;have r1:=G (XU V O) ad;have a5:=Y λh=>JN (p:=To 0 t) (xs:=P.2) (k:=q) M_ h;have a8:=Y λh=>XY (p:=To 0 t) M_ ac h;clear ad;generalize P.2[q]=F_ at*;have af:Q (Tp So F_ 0 t=To 0 t F_):=R;cases hr:Tp So F_ 0 t
   .have I_:=Y hr;go_wp2_with (go_at_call 146;refine YU Yp λN_ y=>?_;rw[y];clear y N_)
    go_ret;exact⟨Xl (Xw T<|by rw[v.o,Xw a5<|by rw[<-af.o];exact I_];simp).symm,Xg r V⟩
   have I_:=Y hr;go_wp2_with (go_at_call 146;refine YU Yp λN_ y=>?_;rw[y];clear y N_)
   go_round
   .exact⟨q+1,O,gM,Xw a8<|by rw[<-af.o];exact I_⟩
   simp[JB];omega
  go_wp2
  exact⟨⟨j+1,O,gM,V,Xw a7 (by have f:=H_.o;have l:=G_.o;rw[v.o,s.o,eB f,eB (p:=1<=J P.2) O,YE (xs:=P.2) (k:=q) O ac.o];rfl)⟩,SA⟩
 have V_:((J P.2:I) != (J e:I))=So:=by rw[jJ];omega
 have H_:=Y f;clear f;go_wp2
 go_quiet ((go_at_call 146;exact Calls.quiet_of_same<|Yp))
 go_wp2;go_ret;exact⟨Xl (Xw T<|by rw[v.o,s.o,dJ H_.o];simp).symm,Xg r<|iX (Xb b _) _⟩
def Zc(B:N):N:=(Rg 8).countP λi=>B.testBit i
def E1(f:N->N):N->N->N
 |0,_=>0
 |n+1,x=>f (x%256)+256*E1 f n (x/256)
def Wr(c:N):N->N
 |0=>0
 |n+1=>c+256*Wr c n
theorem KA(a:n<256)(d:c<256):(n+256*m)&&&(c+256*k)=(n&&&c)+256*(m&&&k):=by
 have b:n&&&c<2^8:=iC jB a;have e1:n+256*m=2^8*m+n:=O;have e2:c+256*k=2^8*k+c:=O;have e3:(n&&&c)+256*(m&&&k)=2^8*(m&&&k)+(n&&&c):=O;rw[e1,e2,e3];apply Nat.eq_of_testBit_eq;intro i;rw[jW,iH _ a,iH _ d,iH _ b];by_cases h:i<8;·simp[h]
 simp[h]
def f1(B:N):N:=(B/2&&&85)+(B&&&85)
def f2(B:N):N:=(B/4&&&51)+(B&&&51)
def f3(B:N):N:=(B/16+B)&&&15
theorem DJ:∀t,t<2->∀B,B<256->(B/2+128*t)&&&85=B/2&&&85:=by decide +kernel
theorem D4:∀t,t<4->∀B,B<256->(B/4+64*t)&&&51=B/4&&&51:=by decide +kernel
theorem kT:∀B,B<256->f1 B<256:=by decide +kernel
theorem rq:∀B,B<256->f2 B<256:=by decide +kernel
abbrev rC(B:N):Prop:=B%16<=4/\B/16<=4
theorem EV:∀B,B<256->rC (f2<|f1 B):=by decide +kernel
theorem CY:∀t,t<=4->∀B,B<256->rC B->B/16+16*t+B<256/\(B/16+16*t+B)&&&15=f3 B:=by decide +kernel
theorem Gt:∀B,B<256->f3 (f2<|f1 B)=Zc B:=by decide +kernel
theorem uo:∀B,B<256->Zc B<=8:=by decide +kernel
theorem oZ{f:Wk}(a:∀B,B<256->f B<256):∀n x,E1 f n x<256^n
 |0,_=>by simp[E1]
 |n+1,x=>by have b:=oZ a n<|x/256;have c:=a (x%256) (dS _ vY);simp only[E1,Nat.pow_succ];omega
theorem map_map{f h:Wk}(a:∀B,B<256->h B<256):∀n x,E1 f n (E1 h n x)=E1 (λB=>f<|h B) n x
 |0,_=>R
 |n+1,x=>by have b:=a (x%256) (dS _ vY);simp only[E1];have e1:(h (x%256)+256*E1 h n (x/256))%256=h (x%256):=O;have e2:(h (x%256)+256*E1 h n (x/256))/256=E1 h n (x/256):=O;rw[e1,e2,map_map a n]
theorem tP{f h:Wk}(e:∀B,B<256->f B=h B):∀n x,E1 f n x=E1 h n x
 |0,_=>R
 |n+1,x=>by simp only[E1];rw[e _<|dS _ vY,tP e n]
theorem wV:∀n x,(x/2&&&Wr 85 n)+(x&&&Wr 85 n)=E1 f1 n x
 |0,x=>by simp[Wr,E1]
 |n+1,x=>by
  have a:x%256<256:=dS _ vY;have ex:x=x%256+256*(x/256):=O;have d:x/2=(x%256/2+128*(x/256%2))+256*(x/256/2):=O;have e:=wV n<|x/256;simp only[E1,Wr];rw[<-e];have b:x/2&&&(85+256*Wr 85 n)=(x%256/2&&&85)+256*(x/256/2&&&Wr 85 n):=by rw[d,KA O vY,DJ _ (dS _ vY) _ a]
  have c:x&&&(85+256*Wr 85 n)=(x%256&&&85)+256*(x/256&&&Wr 85 n):=by
   conv=>lhs;rw[ex]
   exact KA a vY
  rw[b,c];unfold f1;omega
theorem wP:∀n x,(x/4&&&Wr 51 n)+(x&&&Wr 51 n)=E1 f2 n x
 |0,x=>by simp[Wr,E1]
 |n+1,x=>by
  have a:x%256<256:=dS _ vY;have ex:x=x%256+256*(x/256):=O;have d:x/4=(x%256/4+64*(x/256%4))+256*(x/256/4):=O;have e:=wP n<|x/256;simp only[E1,Wr];rw[<-e];have b:x/4&&&(51+256*Wr 51 n)=(x%256/4&&&51)+256*(x/256/4&&&Wr 51 n):=by rw[d,KA O vY,D4 _ (dS _ vY) _ a]
  have c:x&&&(51+256*Wr 51 n)=(x%256&&&51)+256*(x/256&&&Wr 51 n):=by
   conv=>lhs;rw[ex]
   exact KA a vY
  rw[b,c];unfold f2;omega
def VM:N->N->Prop
 |0,x=>x=0
 |n+1,x=>rC (x%256)/\VM n (x/256)
theorem vy:∀n x,VM n<|E1 (λB=>f2<|f1 B) n x
 |0,_=>R
 |n+1,x=>by have a:x%256<256:=dS _ vY;have d:=rq _<|kT _ a;have b:=EV _ a;have c:=vy n<|x/256;simp only[E1,VM];have e1:(f2 (f1<|x%256)+256*E1 (λB=>f2<|f1 B) n (x/256))%256=f2 (f1<|x%256):=O;have e2:(f2 (f1<|x%256)+256*E1 (λB=>f2<|f1 B) n (x/256))/256=E1 (λB=>f2<|f1 B) n (x/256):=O;rw[e1,e2];exact⟨b,c⟩
theorem EA:∀n x,VM n x->x%16<=4
 |0,x,h=>by simp only[VM]at h;omega
 |n+1,x,h=>by have:=h.1.1;omega
theorem wR:∀n x,VM n x->(x/16+x)&&&Wr 15 n=E1 f3 n x
 |0,x,_=>by simp[Wr,E1]
 |n+1,x,h=>by have c:x%256<256:=dS _ vY;have e:=wR n (x/256) h.2;have d:=EA n _ h.2;let⟨a,b⟩:=CY _ d _ c h.1;simp only[E1,Wr];rw[<-e,<-b];have ex:x/16+x=(x%256/16+16*(x/256%16)+x%256)+256*(x/256/16+x/256):=O;rw[ex,KA a vY]
def NZ(n x:N):N:=(Rg<|8*n).countP λi=>x.testBit i
theorem Bv:NZ (n+1) m=Zc (m%256)+NZ n (m/256):=by
 unfold NZ Zc;have e:8*(n+1)=8+8*n:=O;rw[e,lI,lN,List.countP_map];congr 1
 .apply kK;intro i a;have:i<8:=bE.1 a;have e2:(m%2^8).testBit i=m.testBit i:=by rw[Nat.testBit_mod_two_pow];simp[this]
  rw[show m%256=m%2^8 from R,e2]
 apply kK;intro i a;have e2:(m/2^8).testBit i=m.testBit (8+i):=by rw[Nat.testBit_div_two_pow,yy]
 rw[show m/256=m/2^8 from R,e2];rfl
def rA(f:N->N):N->N->N
 |0,_=>0
 |n+1,x=>f (x%256)+rA f n (x/256)
theorem uh:∀n x,NZ n x=rA Zc n x
 |0,_=>R
 |n+1,x=>by rw[Bv,uh n];rfl
def T3(c:UInt8):Bool:=Jd (48<=c.toNat)&&Jd (c.toNat<=57)
def Ax(f:Wn)(a:N):Bool:=!(J f==0||Jd (a<J f)||(f.head? == S 48&&Jd (1<J f)))&&f.all T3
def Bo(f:Wn):N:=f.foldl (λa c=>a*10+(c.toNat-48)) 0
theorem yK{f}(c):Bo (f++[c])=Bo f*10+(c.toNat-48):=by simp[Bo]
theorem JS(f:Wn):∀a:N,f.all T3=So->f.foldl (λa c=>a*10+(c.toNat-48)) a<(a+1)*10^J f:=by
 induction f with
 |nil=>intro a _;simp
 |cons c r e=>
  intro a h;rw[vi,bY]at h;have d:=h.1;simp only[T3,bY,bD]at d;have b:=e (a*10+(c.toNat-48)) h.2;rw[iM,bA,Nat.pow_succ];refine aX b ?_
  calc (a*10+(c.toNat-48)+1)*10^J r<=((a+1)*10)*10^J r:=jI _ O
   _=(a+1)*(10^J r*10):=by rw[Nat.mul_assoc,Nat.mul_comm 10]
theorem zn{f}(h:f.all T3=So):Bo f<10^J f:=by have:=JS f 0 h;simpa [Bo]using this
def Gb(f:Wn):I:=if Ax f 4=So then (Bo f:I)else -1
def NM:List UInt8->Bool
 |45::c::r=>c != 48&&NM (c::r)&&c != 45
 |f=>Ax f 10&&Jd (Bo f<=1000000000)
def i9(f:Wn):I:=if f.head?=S 45 then -(Bo f.tail:I)else Bo f
def am(sep:UInt8):List UInt8->List UInt8->List (List UInt8)
 |cur,[]=>[cur]
 |cur,c::r=>if c=sep then cur::am sep [] r else am sep (cur++[c]) r
def C3(a:Wn)(sep:UInt8):Vw:=am sep [] a
def Y3(f:Wn):Bool:=Jd (0<J f)&&f.all λc=>Jd (33<=c.toNat)&&Jd (c.toNat<=126)
def Bf(a:Wn):Vw:=if (C3 a 32).all Y3=So then C3 a 32 else []
theorem zJ{f}(h:n<(K8 f).size):(K8 f)[n]=f[n]'(by rw[<-i7];exact h):=R
theorem yD(f)(a:N)(F:a<=100)(w:Ub):
 Sk prog 82 #[Sg (K8 f),H a] w λg B=>g=Rt (Sb (Ax f a))/\B=w:=by
 have L:=i7 f;by_cases j:J f=0
 .have d:Q (Ax f a=Sn):=Y<|by unfold Ax;simp[j]
  go_in
  go_wp2;go_ret;exact⟨Xl d.symm,R⟩
 by_cases s:a<J f
 .have d:Q (Ax f a=Sn):=Y<|by unfold Ax;simp[s]
  go_in
  go_wp2
  all_goals
   go_ret;exact⟨Xl d.symm,R⟩
 have M:0<(K8 f).size:=O;have p:Q ((f.head? == S 48)=Jd ((((K8 f)[0]).toNat:I)=48)):=Y (by
  cases f with
  |nil=>simp at j
  |cons c K=>
   have g:(K8 (c::K))[0]=c:=R;rw[g];by_cases l:c=48;·subst l;rfl
   have:¬((c.toNat:I)=48):=λh=>l<|UInt8.toNat_inj.1 (by show c.toNat=48;omega)
   simp[l,this])
 by_cases b:((((K8 f)[0]).toNat:I)=48)/\1<J f
 .have d:Q (Ax f a=Sn):=Y (by unfold Ax;rw[p.o];simp[b.1,b.2]);let⟨u,v⟩:=b
  go_in
  go_wp2
  all_goals
   go_ret;exact⟨Xl d.symm,R⟩
 have r:Q (Ax f a=f.all T3):=Y (by
  unfold Ax;rw[p.o];have e1:(J f==0)=Sn:=by simpa using j
  have e2:Jd (a<J f)=Sn:=by simpa using s
  have e3:(Jd ((((K8 f)[0]).toNat:I)=48)&&Jd (1<J f))=Sn:=by
   rw[jD];by_cases q:(((K8 f)[0]).toNat:I)=48;·exact aZ<|by simpa using λh=>b ⟨q,h⟩
   exact bC<|by simpa using q
  rw[e1,e2,e3];rfl)
 have z:(¬((((K8 f)[0]).toNat:I)=48))\/((((K8 f)[0]).toNat:I)=48/\J f<=1):=by
  by_cases q:(((K8 f)[0]).toNat:I)=48
  .exact aZ ⟨q,by
    obtain h|h:=mL 1 (J f);·exact Sz ⟨q,h⟩ b
    exact h⟩
  exact bC q
 clear b;obtain u|⟨u,v⟩:=z
 focus
  go_in
 rotate_left
 focus
  have P:J f=1:=O;have T:¬((1:I)<(J f:I)):=O;clear v
  go_in
 all_goals (
  go_wp2
  go_loop [5] (λm=>∃k:N,k<=J f/\m=H k/\Q ((f.take k).all T3=So)) λm=>J f-(JB m).toNat
  .exact⟨0,aN,R,R⟩
  case round=>
   obtain⟨k,C,rfl,n⟩:=hrel;by_cases t:k<J f
   .have V:k<(K8 f).size:=O
    have i:Q (T3 (K8 f)[k]=So↔¬(((K8 f)[k]).toNat:I)<48/\¬(57:I)<(((K8 f)[k]).toNat:I)):=Y (by simp only[T3,bY,bD];omega);have y:Q ((f.take<|k+1).all T3=((f.take k).all T3&&T3 (K8 f)[k])):=Y (by rw[bN t,sS];simp[zJ]);have o:Q (T3 (K8 f)[k]=Sn->Ax f a=Sn):=Y (λh=>G r (by rw[lZ];exact⟨f[k],aH t,by have g:T3 f[k]=Sn:=h;rw[g];simp⟩))
    by_cases c1:(((K8 f)[k]).toNat:I)<48
    .have e:=Y (o.o (by cases h:T3 (K8 f)[k]with|false=>rfl|true=>exact Sz c1 (i.1 h).1));go_wp2;go_ret;exact⟨Xl e.symm,R⟩
    by_cases c2:(57:I)<(((K8 f)[k]).toNat:I)
    .have e:=Y (o.o (by cases h:T3 (K8 f)[k]with|false=>rfl|true=>exact Sz c2 (i.1 h).2));go_wp2;go_ret;exact⟨Xl e.symm,R⟩
    have x:Q ((f.take<|k+1).all T3=So):=Y (by rw[y.o,n.o,i.2 ⟨c1,c2⟩];rfl);go_wp2
    go_round
    .exact⟨k+1,O,gM,x⟩
    simp[JB];omega
   have e:Q (Ax f a=So):=Y (by rw[r.o];have:=n.o;rwa[aW O]at this);go_wp2;go_ret
   exact⟨Xl e.symm,R⟩)
theorem pK(n):∀(f:Wn),J f=n->f.all T3=So->n<=10->∀w:Ub,Sk prog 83 #[Sg (K8 f)] w λe i=>e=Rt (H (Bo f:N))/\Sw (Z w.1) w i:=by
 induction n with
 |zero=>
  intro f a _ _ w;have y:=List.length_eq_zero_iff.1 a;subst y;clear a;have L:(K8 []).size=0:=R
  go_in
  go_wp2;go_ret;exact⟨R,Rf⟩
 |succ n q=>
  intro f a l M w;have h:f≠[]:=by intro x;rw[x]at a;simp at a
  obtain⟨g,c,rfl⟩:∃g c,f=g++[c]:=⟨f.dropLast,f.getLast h,(List.dropLast_concat_getLast h).symm⟩;have b:J g=n:=by simpa using a
  rw[sS,bY]at l;let⟨d,m⟩:=l;have u:=Y<|q g b d O;clear q;have o:(K8<|g++[c]).size=n+1:=by rw[i7];exact a
  have t:Q ((K8<|g++[c]).extract 0 n=K8 g):=Y (by apply ByteArray.ext;simp[K8,ByteArray.data_extract,<-b])
  have P:n<(K8<|g++[c]).size:=O;have T:(K8<|g++[c])[n]=c:=by show(g++[c])[n]'(by simp[b])=c;simp[<-b]
  have V:(48:I)<=c.toNat/\(c.toNat:I)<=57:=by simp only[vi,List.all_nil,vR,T3,bY,bD]at m;omega
  have r:Q ((Bo (g++[c]):I)=Bo g*10+((c.toNat:I)-48)):=Y (by rw[yK];omega);have k:(Bo g:I)<10000000000:=by have C:=zn d;have W:10^J g<=10^10:=IJ vY O;omega
  clear d m h a;clear b;generalize K8 (g++[c])=F at*;have j:=Y o;clear o;have K:(n:I)<F.size:=O;have B:¬((F.size:I)=0):=O;have Q_:((F.size:I)==0)=Sn:=by simpa using B
  have s:=Y k;clear k;have z:(F.size:I)-1=(n:I):=oN j.o;have p:S6.wrap ((F.size:I)-1)=(n:I):=by rw[dF,z];omega
  have R_:S6.wrap ((n:I))=(n:I):=by rw[dF];omega
  have L_:(0:I)<=n:=O;have M_:(n:I)<=F.size:=O;have v:Q (∀w,Sk prog 83 #[Sg (F.extract 0 n)] w λe i=>e=Rt (H (Bo g:N))/\Sw (Z w.1) w i):=Y (t.o▸u)
  go_in
  go_wp2_with fail
  go_region_held3 (λ_=>True) (trivial) ((go_at_call 83;refine YU (v _) λS_ p=>?_))
  all_goals
   go_wp2;go_ret;refine⟨f9 ?_,?_⟩
   .rw[r.o];have:=s.o;have e1:IntKind.u8.wrap ((c.toNat:I)-48)=(c.toNat:I)-48:=by simp[IntKind.wrap,IntKind.signed,IntKind.bits];omega
    have e2:S6.wrap ((c.toNat:I)-48)=(c.toNat:I)-48:=by rw[dF];omega
    have e3:S6.wrap ((Bo g:I)*10)=(Bo g:I)*10:=by rw[dF];omega
    rw[e1,e2,e3,dF];omega
   exact(Rf).drew.trans p
theorem j9(f)(w:Ub):
 Sk prog 41 #[Sg (K8 f)] w λe k=>e=Rt (H<|Gb f)/\Sw (Z w.1) w k:=by
 have g:=λw=>Y<|yD f 4 vY w;cases h:Ax f 4 with
 |false=>
  have d:Q (Gb f=-1):=Y (by unfold Gb;rw[h];rfl);have c:=Y h
  go_in
  go_wp2_with (go_at_call 82;refine YU (g _) λb a=>?_;rw[a,c.o];clear a b)
  go_ret;exact⟨f9 d.symm,Rf⟩
 |true=>
  have d:Q (Gb f=(Bo f:N)):=Y (by unfold Gb;rw[h];rfl);have hq:J f<=4/\f.all T3=So:=by unfold Ax at h;simp only[bY,lV,IL,fC]at h;exact⟨O,h.2⟩
  have i:=λw=>Y<|pK (J f) f R hq.2 O w
  go_in
  go_wp2_with (first|(go_at_call 82;refine YU (g _) λb a=>?_;rw[a,(Y h).o];clear a b)|(go_at_call 83;refine YU (i _) λb j=>?_))
  go_ret;exact⟨f9 d.symm,j⟩
theorem sI(c)(r:Wn):NM (45::c::r)=(c != 48&&NM (c::r)&&c != 45):=by rw[NM]
theorem oQ(f:Wn)(h:∀c r,f≠45::c::r):NM f=(Ax f 10&&Jd (Bo f<=1000000000)):=by rw[NM];intro c r e;exact h c r e
theorem sh{f}(h:Ax f n=So):J f<=n/\f.all T3=So/\0<J f:=by unfold Ax at h;simp only[bY,lV,IL,fC,iS]at h;exact⟨O,h.2,O⟩
theorem Mc:∀(f:Wn)(_:∀c r,f≠45::c::r)(_:1<J f)(a:0<(K8 f).size),¬((((K8 f)[0]).toNat:I)=45)
 |c::d::r,h,_,_,e=>h d r<|by rw[show c=45 from UInt8.toNat_inj.1 (by have:(c.toNat:I)=45:=e;show c.toNat=45;omega)]
 |[_],_,q,_,_=>Sz q sP
 |[],_,q,_,_=>Sz q sP
theorem zPF0{p: Prop}(h: p := by
  go_wp2_with (first|(go_at_call 82;refine YU (h _) λb a=>?_;rw[a,d.o];clear a b)|(go_at_call 83;refine YU (j _) λb i=>?_))
  go_ret
  exact⟨Xl g.symm,i⟩): p := h
theorem zPF1{p: Prop}(h: p := by
  go_wp2_with (go_at_call 82;refine YU (h _) λb a=>?_;rw[a,d.o];clear a b)
  go_ret
  exact⟨Xl g.symm,Below.refl _ _⟩): p := h
theorem yB{f:Wn}(l:∀c r,f≠45::c::r):
 Sk prog 86 #[Sg (K8 f)] w λe o=>e=Rt (Sb (NM f))/\Sw (Z w.1) w o:=by
 have k:=Y<|oQ f l;have h:=λw=>Y<|yD f 10 vY w
 have p:=i7 f;have n:J f<=1\/(1<J f/\∃m:0<(K8 f).size,¬((((K8 f)[0]).toNat:I)=45)):=by
  obtain q|q:=mL 1 (J f)
  .right
   exact⟨q,O,Mc f l q O⟩
  exact bC q
 cases hd:Ax f 10 with
 |false=>
  have d:=Y hd;have g:Q (NM f=Sn):=Y (by rw[k.o,hd];rfl);obtain q|⟨q,m,q2⟩:=n
  .go_in
   exact zPF1
  go_in
  exact zPF1
 |true=>
  have d:=Y hd;have hq:=sh hd;have j:=λw=>Y<|pK (J f) f R hq.2.1 hq.1 w
  have g:Q (NM f=Jd ((Bo f:I)<=1000000000)):=Y (by
   rw[k.o,hd,rS];by_cases q:Bo f<=1000000000;·rw[eB q,eB O]
   rw[dJ q,dJ O])
  obtain q|⟨q,m,q2⟩:=n
  .go_in
   exact zPF0
  go_in
  exact zPF0
theorem IG:∀(f:Wn),J f<=n->J f<=1000000->∀w:Ub,Sk prog 86 #[Sg (K8 f)] w λe i=>e=Rt (Sb (NM f))/\Sw (Z w.1) w i:=by
 induction n with
 |zero=>
  intro f b _ w;exact yB λc r e=>by rw[e]at b;simp at b
 |succ n o=>
  intro f b h w;by_cases d:∀c r,f≠45::c::r;·exact yB d
  have d:∃c r,f=45::c::r:=by
   false_or_by_contra
   rename_i q;exact d λc r e=>q ⟨c,r,e⟩
  obtain⟨c,r,rfl⟩:=d;have k:=Y (o (c::r) (by simp at b |-;omega) (by simp at h |-;omega));have g:=Y<|sI c r;have t:(K8 (45::c::r)).size=J r+2:=i7 _;have v:0<(K8 (45::c::r)).size:=O;have x:1<(K8 (45::c::r)).size:=O;have y:(K8 (45::c::r))[0]=45:=R;have z:(K8 (45::c::r))[1]=c:=R;have j:Q ((K8 (45::c::r)).extract 1 (K8 (45::c::r)).size=K8 (c::r)):=Y (by apply ByteArray.ext;rw[ByteArray.data_extract,i7];simp[K8])
  have s:Q (∀w,Sk prog 86 #[Sg ((K8 (45::c::r)).extract 1 (J r+2))] w λe i=>e=Rt (Sb (NM (c::r)))/\Sw (Z w.1) w i):=Y (by rw[<-t,j.o];exact k);have C:J r<=1000000:=by simp at h;omega
  generalize K8 (45::c::r)=F at*;by_cases l:(c.toNat:I)=48
  .have a:Q (NM (45::c::r)=Sn):=Y (by
    have e:c=48:=UInt8.toNat_inj.1 (by show c.toNat=48;omega);rw[g.o,e];rfl)
   go_in
   go_wp2;go_ret;exact⟨Xl a.symm,Rf⟩
  have p:Q ((c != 48)=So):=Y (by rw[jJ];intro e;subst e;exact l R)
  go_in
  go_wp2_with fail
  refine YU (s _) λB m=>?_;cases hb:NM (c::r)with
  |false=>
   have a:Q (NM (45::c::r)=Sn):=Y (by rw[g.o,hb];simp);go_wp2;go_ret;exact⟨Xl a.symm,m⟩
  |true=>
   have a:Q (NM (45::c::r)=((c.toNat:I) != 48&&(c.toNat:I) != 45)):=Y (by
    rw[g.o,hb,p.o,rS,rS,jJ.2 l,rS];by_cases q:c=45;·subst q;rfl
    have:¬((c.toNat:I)=45):=λu=>q<|UInt8.toNat_inj.1 (by show c.toNat=45;omega)
    rw[jJ.2 q,jJ.2 this])
   go_wp2;go_ret;exact⟨Xl a.symm,m⟩
theorem LM{f:Wn}(h:NM f=So):(∃r,f=45::r/\J r<=10/\r.all T3=So/\Bo r<=1000000000)\/(f.head?≠S 45/\0<J f/\J f<=10/\f.all T3=So/\Bo f<=1000000000):=by
 have d:∀g:Wn,(∀c r,g≠45::c::r)->NM g=So->g.head?≠S 45/\0<J g/\J g<=10/\g.all T3=So/\Bo g<=1000000000:=λg i b=>by
  rw[oQ g i,bY,bD]at b;let⟨q1,q2,q3⟩:=sh b.1;refine⟨λe=>?_,q3,q1,q2,b.2⟩;cases g with
  |nil=>cases e
  |cons x r=>
   simp at e;subst e;simp[T3]at q2
 by_cases a:∀c r,f≠45::c::r;·exact aZ<|d f a h
 have a:∃c r,f=45::c::r:=by
  false_or_by_contra
  rename_i q;exact a λc r e=>q ⟨c,r,e⟩
 obtain⟨c,r,rfl⟩:=a;rw[sI,bY,bY,jJ,jJ]at h;let⟨_,q3,q4,j,k⟩:=d (c::r) (λl s e=>h.2<|by cases e;rfl) h.1.2;exact bC ⟨c::r,R,q4,j,k⟩
theorem IT{f:Wn}(g:NM f=So):
 Sk prog 87 #[Sg (K8 f)] w λe h=>e=Rt (H<|i9 f)/\Sw (Z w.1) w h:=by
 obtain⟨r,rfl,h1,h2,h3⟩|⟨h0,j,h1,h2,h3⟩:=LM g
 .have a:=λw=>Y<|pK (J r) r R h2 h1 w
  have b:Q (i9 (45::r)=-(Bo r:I)):=Y R;have n:(K8 (45::r)).size=J r+1:=i7 _;have j:0<(K8 (45::r)).size:=O;have m:(K8 (45::r))[0]=45:=R;have i:Q ((K8 (45::r)).extract 1 (J r+1)=K8 r):=Y (by apply ByteArray.ext;rw[ByteArray.data_extract];simp[K8])
  have l:Q (∀w,Sk prog 83 #[Sg ((K8 (45::r)).extract 1 (J r+1))] w λe h=>e=Rt (H (Bo r:N))/\Sw (Z w.1) w h):=Y (by rw[i.o];exact λw=>(a w).o);have k:=Y h3;generalize K8 (45::r)=F at*
  go_in
  go_wp2_with fail
  refine YU (l _) λo d=>?_;have q:S6.wrap (-(Bo r:I))=-(Bo r:I):=by rw[dF];have:=k.o;omega
  go_wp2;go_ret;exact⟨f9 b.symm,d⟩
 have a:=λw=>Y<|pK (J f) f R h2 h1 w
 have b:Q (i9 f=(Bo f:I)):=Y (by unfold i9;rw[aM h0]);have n:(K8 f).size=J f:=i7 _;have p:0<(K8 f).size:=O;have m:¬((((K8 f)[0]).toNat:I)=45):=by
  cases f with
  |nil=>simp at j
  |cons c s=>
   intro e;exact h0<|by rw[show c=45 from UInt8.toNat_inj.1 (by have:(c.toNat:I)=45:=e;show c.toNat=45;omega)];rfl
 go_in
 go_wp2_with fail
 refine YU (a _) λo d=>?_;go_wp2;go_ret;exact⟨f9 b.symm,d⟩
section
attribute [local go_sem ↓] Go.wp_at_zero Go.wp_at_succ
theorem Vbg(e f:Uy)(n c m:N)(b:Wc)(L B l d:N)(w:Ub)(ha:Q (Xf w L B e b))(q:Q (Xf w l d f b))(r:Q (n=J b))(F:n<=1048576)(v:B<=Z w.1)(x:d<=Z w.1):
 Sk prog 10 #[X e n c,X f n m] w λp s=>p=Rt (Sb So)/\Sw (Z w.1) w s:=by
 go_in
 go_wp2
 go_loopw [5] (λi wr=>∃k:N,k<=n/\i=H k/\Sw (Z w.1) w wr) λi _=>n-(JB i).toNat
 .exact⟨0,aN,R,Rf⟩
 obtain⟨k,K,rfl,a⟩:=hrel;by_cases M:k<n
 .have j:k<J b:=by have:=r.o;omega
  obtain⟨t,o,rfl,⟨_,y⟩,g⟩:=ha.o k j;obtain⟨u,P,rfl,⟨_,z⟩,h⟩:=q.o k j;have C:(0:I)<=k:=O;have T:(k:I)<n:=O;have e1:=G (XU a O) g;have e2:=G (XU a O) h;clear g h;go_wp2;go_region;go_wp2;exact⟨⟨k+1,O,gM,a.drew⟩,SA⟩
 go_wp2;go_ret;exact⟨R,a⟩
end
