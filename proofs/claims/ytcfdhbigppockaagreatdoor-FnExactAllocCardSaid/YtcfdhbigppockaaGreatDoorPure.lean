import Derived.Test.YtcfdhbigppockaaGreatDoorTA
import Derived.Test.YtcfdhbigppockaaGreatDoorProg
import Derived.WalkSpells
import Derived.WalkLawsBesides
import Derived.Deep.RegionWith
import Derived.Deep.DrawnRows
import Derived.Deep.MidRow
import Derived.BigQuiet
import Derived.Deep.Slices
import Derived.Laws.BitsAllLaws
import Derived.Deep.RegionHeld3
namespace Go.Proofs.YtcfdhbigppockaaGreatDoor
set_option maxHeartbeats 2000000
set_option maxRecDepth 100000
open Go.RowKit Go.Proofs.Tryz
variable{r:Bool}{t T z:Int}{n m k B g j c:Nat}{w v u:Ub}{a:Uj}{p P:Uy}{M N:Vp}{d:Vv}{s:Wa}{l:Wc}{x:Wi}{f F:Wk}{y:Wo}{q:Xe}{R:Yh}{D:Yr}
def dB(a:Int):Bool:=decide (1<=a/\a<=8)||decide (a=11)||decide (a=13)
def aB(a:Int):Bool:=decide (3<=a/\a<=12)
def bB(a:Int):Bool:=decide (3<=a/\a<=7)||decide (a=9)
def Tp(u:Bool)(x b a:Int):Bool:=if u then decide (b<=x)&&decide (x<a)else x==0
def Wu(x:Yg):Bool:=if x.1==1 then decide (-1000000000<=x.5)&&decide (x.5<=1000000000)else if x.1==2 then decide (0<=x.5)&&decide (x.5<8)else x.5==0
def Yw(n a:Int)(x:Yg):Bool :=
 decide (1<=x.1)&&decide (x.1<=a)&&Tp (dB x.1) x.2 0 n&&Tp (aB x.1) x.a 0 n&&Tp (bB x.1) x.b 0 n&&Wu x
def Zu(n low a:Int)(t:Yj):Bool :=
 decide (1<=t.1)&&decide (t.1<=3)&&Tp (t.1 != 1) t.a 0 n&&Tp (t.1 != 3) t.3 low a&&Tp (t.1==2) t.4 low a
def Jf(n a:Int)(t:Yj):Bool:=Zu n 1 a t&&!(t.1==2&&t.3==t.4)
def Yj.tg(t:Yj):Wc:=if t.1=1 then [t.3]else if t.1=2 then [t.3,t.4]else []
def XZ(a:Za):Nat:=(a.map λp=>1+p.2.length).sum
def Ul(x:Xe):Nat:=1+x.2.length+XZ x.1
def Xo(a:Wi):Nat:=(a.map Ul).sum
def AQ:List Xe->Nat->Int->List Int
 |[],_,_=>[]
 |x::xs,i,b=>(if x.3.tg.contains b then [(i:Int)]else [])++AQ xs (i+1) b
def Fn.preds(F:Fn)(b:Int):Wc:=AQ F.2 0 b
def XG(a:Za):Wc:=a.map (·.1)
def XI(a:Vr):Wc:=(a.filter λx=>dB x.1).map (·.2)
def Z6(x:Xe):Wc:=XG x.1++XI x.2
def BX(a:Wi):Wc:=a.flatMap Z6
def Y6(F:Fn):Bool:=decide (0<=F.1)&&decide (F.1<=2000)&&decide (1<=F.2.length)&&decide (F.2.length<=1000)&&decide (Xo F.2<=4000)
def J2(F:Fn):Bool:=F.2.all λx=>Jf F.1 F.2.length x.3
def Z0(F:Fn):Bool:=F.2.all λx=>x.2.all<|Yw F.1 10
def Jt(n:Int)(k:Nat)(p:Ph):Bool:=decide (1<=p.2.length)&&decide (p.2.length=k)&&p.2.all λa=>decide (0<=a)&&decide (a<n)
def ZX(n:Int)(k:Nat)(p:Ph):Bool:=Tp true p.1 0 n&&Jt n k p
def Zi(b:Int->Nat->Ph->Bool)(F:Fn)(a:List Xe)(i:Nat):Bool :=
 match a with
 |[]=>true
 |x::a=>x.1.all (b F.1 (F.preds i).length)&&Zi b F a (i+1)
def Ug(F:Fn):Bool:=Zi Jt F F.2 0
def KL(F:Fn):Bool:=Zi ZX F F.2 0
def F5(a:Wc)(v:Int):Nat:=(a.filter λx=>x==v).length
def JM(F:Fn):Bool:=(List.range F.1.toNat).all λv=>F5 (BX F.2) v==1
def Ui(F:Fn):Bool:=decide (((BX F.2).length:Int)=F.1)&&(List.range F.1.toNat).all λv=>(BX F.2).contains (v:Int)
def XJ(F:Fn):Bool:=Y6 F&&J2 F&&Z0 F&&KL F&&JM F
def iu(F:Fn):Bool:=Y6 F&&(Z0 F&&J2 F)&&Ug F&&Ui F
def JG(a:Za):Nat:=(a.map λp=>p.2.length).sum
def ZZ(x:Xe):Nat:=x.1.length+JG x.1+x.2.length
def Xx(a:Wi):Nat:=(a.map ZZ).sum
theorem Lg{a:Za}{p:Ph}:JG (a++[p])=JG a+p.2.length:=by simp[JG]
theorem Vm:Xx (x++[q])=Xx x+ZZ q:=by simp[Xx]
theorem Tw{b:Type}(f:b->Nat)(a:List b)(k:Nat):((a.take k).map f).sum<=(a.map f).sum:=by
 induction a generalizing k with
 |nil=>simp
 |cons x a c=>cases k with
  |zero=>simp
  |succ k=>simp only[List.take_succ_cons,eH,kX];have:=c k;omega
theorem UX(a:Wi)(k:Nat):Xx (a.take k)<=Xx a:=Tw _ _ _
theorem f9{k:IntKind}(h:t=T):Ending.returned (.int k t)=.returned (.int k T):=by rw[h]
theorem Xl{b:Bool}(h:r=b):Ending.returned (.bool r)=.returned (.bool b):=by rw[h]
theorem Yp:
 Calls prog 145 #[.bool r,Hp t,Hp T,Hp z] w λe c=>e=.returned (.bool (Tp r t T z))/\c=w:=by
 cases r
 .go_in
  go_wp2;go_ret;exact⟨rfl,rfl⟩
 by_cases a:T<=t<;>by_cases b:t<z
 all_goals
  go_in
  go_wp2;go_ret;exact⟨by simp[Tp,a,b],rfl⟩
theorem X7{b:Type}{a:List b}(h:n<a.length):a.take (n+1)=a.take n++[a[n]]:=bN h
section
attribute [local go_sem ↓] Go.wp_at_zero Go.wp_at_succ
theorem J1{c f:Int}:
 Calls prog 193 #[.agg #[Hp t,Hp T,Hp c,Hp z,Hp f],.agg #[Hp t,Hp T,Hp c,Hp z,Hp f]] w λe a=>e=.returned (.bool true)/\Below w.1.size w a:=by
 go_in
 go_wp2;go_ret;exact⟨rfl,Xb (Xb (Below.refl _ _) _) _⟩
theorem Lk{c:Int}:
 Calls prog 168 #[.agg #[Hp t,Hp T,Hp c,Hp z],.agg #[Hp t,Hp T,Hp c,Hp z]] w λe a=>e=.returned (.bool true)/\Below w.1.size w a:=by
 go_in
 go_wp2;go_ret;exact⟨rfl,Xb (Xb (Below.refl _ _) _) _⟩
theorem JB{a:Vr}(L B j d:Nat)(ha:Hs (YY w L B p a))(l:Hs (YY w j d P a))(q:Hs (n=a.length))(H:n<=1048576)(y:B<=w.1.size)(z:d<=w.1.size):
 Calls prog 167 #[.slice p n c,.slice P n m] w λe r=>e=.returned (.bool true)/\Below w.1.size w r:=by
 go_in
 go_wp2
 go_loopw [5] (λi wr=>∃k:Nat,k<=n/\i=Hp k/\Below w.1.size w wr) λi _=>n-(intOf i).toNat
 case atStart=>exact⟨0,aN,rfl,Below.refl _ _⟩
 obtain⟨k,D,rfl,b⟩:=hrel;by_cases G:k<n
 .have h:k<a.length:=oN q.o;obtain⟨s,I,rfl,⟨_,A⟩,f⟩:=ha k h;obtain⟨t,J,rfl,⟨_,C⟩,g⟩:=l k h;have E:(0:Int)<=(k:Int):=oM;have F:(k:Int)<(n:Int):=oM;let⟨u,e1,e2,e3,e4⟩:=f.keep b oM;let⟨v,f1,f2,f3,x⟩:=g.keep b oM;generalize a[k]=X at*;go_wp2
  go_region_with (go_at_call 193;refine(J1).mono ?_;rintro e K⟨rfl,o⟩)
  all_goals
   go_wp2;exact⟨⟨k+1,oM,gM,Xg b.drew o⟩,by simp[intOf];omega⟩
 go_wp2;go_ret;exact⟨rfl,b⟩
def FV(a:Za):Prop:=∀p∈a,p.2.length<=1048576
def Fv(a:Wi):Prop:=∀x∈a,x.1.length<=1048576/\x.2.length<=1048576/\FV x.1
end
section
variable {w w1: Ub} {L B b t N: Nat} {f: Nat -> Uj}
theorem Jp(a:w.rowIs b t N f){o m:Nat}(h:o+m<=N):w.there b o m:=λj c=>⟨by rw[a.cell oM];rfl,a.frozen _⟩
theorem YA.refl(L B:Nat)(w:Ub):YA L B w w:=λ_ _ _=>rfl
theorem YA.setCell(h:YA L B w w1){p:Addr}(d:p.1<L\/B<=p.1)(v:Uj):YA L B w (w1.setCell p v):=λk a c=>by
 rw[Below.heap_setCell _ _ _ _ oM];exact h k a c
theorem Xd{w:Ub}{p:Addr}{v:Uj}:(w.setCell p v).1.size=w.1.size:=by simp[World.setCell]
end
theorem RH:(prog.info? 2).map (λi=>(i.8,i.3,i.4))=some (some<|Hp 0,1,8):=vZ
theorem qp:F5 l t=l.count t:=by
 unfold F5;rw[List.count,gK]
theorem Ed:∀l:Wc,l.length=n->(∀v:Nat,v<n->(v:Int)∈l)->(∀d∈l,0<=d/\d<n)/\∀v:Nat,v<n->l.count (v:Int)=1:=by
 induction n with
 |zero=>
  intro l e _;have:l=[]:=iE e;subst this;exact⟨λd a=>(eA a).elim,λv b=>absurd b oM⟩
 |succ n p=>
  intro l e b;have f:=b n oM;have m:(l.erase (n:Int)).length=n:=by rw[fP f];omega
  have o:∀v:Nat,v<n->(v:Int)∈l.erase (n:Int):=λv i=>(iF oM).2 (b v oM);let⟨c,j⟩:=p _ m o;have g:=mZ f;refine⟨λd a=>?_,λv i=>?_⟩
  .rcases cH.1 (g.mem_iff.1 a)with rfl|a;·omega
   have:=c d a;omega
  rw[g.count_eq,List.count_cons];by_cases h:v=n
  .subst h;have:(l.erase (v:Int)).count (v:Int)=0:=List.count_eq_zero.2 (λk=>by have:=c _ k;omega);simp[this]
  rw[j v oM];have:((n:Int)==(v:Int))=false:=by simp;omega
  simp[this]
theorem BF(n:Nat):∀l:Wc,(∀d∈l,0<=d/\d<n)->(∀v:Nat,v<n->l.count (v:Int)=1)->l.length=n/\∀v:Nat,v<n->(v:Int)∈l:=by
 induction n with
 |zero=>
  intro l c _;have:l=[]:=List.eq_nil_iff_forall_not_mem.2 (λd b=>by have:=c d b;omega);subst this;exact⟨rfl,λv k=>absurd k oM⟩
 |succ n m=>
  intro l c a;have e:=kE.1 (by rw[a n oM];omega);have p:=mZ e;have j:(l.erase (n:Int)).count (n:Int)=0:=by rw[List.count_erase_self,a n oM]
  have g:∀d∈l.erase (n:Int),0<=d/\d<n:=λd b=>by
   have h:=c d<|List.mem_of_mem_erase b;have o:d≠n:=λf=>by subst f;exact absurd b<|List.count_eq_zero.1 j
   omega
  have i:∀v:Nat,v<n->(l.erase (n:Int)).count (v:Int)=1:=λv h=>by
   rw[List.count_erase_of_ne oM];exact a v oM
  let⟨q,r⟩:=m _ g i;refine⟨by have:=fP e;have:0<l.length:=eJ e;omega,λv h=>?_⟩;exact kE.1<|by rw[a v h];omega
def VF(n:Int)(a:Wi):Bool:=a.all λx=>x.1.all λp=>Tp true p.1 0 n
theorem vw{a:Type}(p q:a->Bool){l:List a}:l.all (λx=>p x&&q x)=(l.all p&&l.all q):=by
 induction l with
 |nil=>rfl
 |cons x l b=>simp only[List.all_cons,b];cases p x<;>cases q x<;>cases l.all p<;>simp
theorem Aw{F:Fn}:∀(a:Wi)(i:Nat),Zi ZX F a i=(VF F.1 a&&Zi Jt F a i):=by
 intro a
 induction a with
 |nil=>intro i;rfl
 |cons x a b=>
  intro i;simp only[Zi,VF,List.all_cons,b];have:x.1.all (ZX F.1 (F.preds ↑i).length)=(x.1.all (λp=>Tp true p.1 0 F.1)&&x.1.all (Jt F.1 (F.preds ↑i).length)):=vw _ _;rw[this];cases x.1.all (λp=>Tp true p.1 0 F.1)<;>cases x.1.all (Jt F.1 (F.preds ↑i).length)<;>simp
theorem BO{F:Fn}(e:Z0 F=true):(VF F.1 F.2=true↔∀d∈BX F.2,0<=d/\d<F.1):=by
 unfold VF BX;simp only[dV,bV,Z6,XG,XI,bU,aY,fG,Tp,gG,bY,bD];constructor
 .rintro h d⟨x,a,⟨p,b,rfl⟩|⟨y,⟨f,c⟩,rfl⟩⟩;·exact h x a p b
  have:=dV.1 (dV.1 e x a) y f;simp only[Yw,c,Tp,gG,bY,bD]at this;omega
 intro h x a p b;exact h _ ⟨x,a,bC ⟨p,b,rfl⟩⟩
theorem Bz{F:Fn}(c:0<=F.1)(d:Z0 F=true):(VF F.1 F.2&&JM F)=Ui F:=by
 rw[eQ];let⟨n,e⟩:=bX c;rw[bY,BO d];unfold JM Ui;rw[e];simp only[dV,bE,dM,iA,bY,bD,eY,qp];constructor
 .rintro⟨b,a⟩;let⟨g,f⟩:=BF n _ b a;exact⟨oM,f⟩
 rintro⟨b,a⟩;exact Ed _ oM a
theorem WY(F:Fn):XJ F=iu F:=by
 unfold XJ iu KL Ug;rw[Aw];cases hs:Y6 F;·simp
 cases hi:Z0 F;·simp
 cases ht:J2 F;·simp
 have a:0<=F.1:=by
  simp only[Y6,bY,bD]at hs;omega
 have:=Bz a hi;rw[<-this];cases VF F.1 F.2<;>cases Zi Jt F F.2 0<;>simp
def Kz(a:Int):ByteArray :=
 if a=1 then ⟨#[100,105]⟩else if a=2 then ⟨#[100,105]⟩else if 3<=a/\a<=7 then ⟨#[100,97,98]⟩else if a=8 then ⟨#[100,97]⟩else if a=11 then ⟨#[100,97]⟩
 else if a=9 then ⟨#[97,98]⟩else if a=10 then ⟨#[97]⟩else if a=12 then ⟨#[97]⟩else if a=13 then ⟨#[100]⟩else ⟨#[]⟩
theorem BA{a b:ByteArray}(h:a=b):Ending.returned (.string a)=.returned (.string b):=by rw[h]
theorem qX(a:Int)(w:Ub):
 Calls prog 62 #[Hp a] w λe d=>e=.returned (.string (Kz a))/\d=w:=by
 by_cases h:1<=a/\a<=13
 .have b:a=1\/a=2\/a=3\/a=4\/a=5\/a=6\/a=7\/a=8\/a=9\/a=10\/a=11\/a=12\/a=13:=oM;obtain rfl|rfl|rfl|rfl|rfl|rfl|rfl|rfl|rfl|rfl|rfl|rfl|rfl:=b
  all_goals
   go_in
   go_wp2;go_ret;exact⟨rfl,rfl⟩
 have f:(a==1)=false:=by simp;omega
 have l:(a==2)=false:=by simp;omega
 have m:(a==3)=false:=by simp;omega
 have n:(a==4)=false:=by simp;omega
 have o:(a==5)=false:=by simp;omega
 have p:(a==6)=false:=by simp;omega
 have q:(a==7)=false:=by simp;omega
 have r:(a==8)=false:=by simp;omega
 have s:(a==9)=false:=by simp;omega
 have g:(a==10)=false:=by simp;omega
 have i:(a==11)=false:=by simp;omega
 have j:(a==12)=false:=by simp;omega
 have k:(a==13)=false:=by simp;omega
 have c:Hs (Kz a=⟨#[]⟩):=by
  show _=_;unfold Kz;rw[aM oM,aM oM,aM oM,aM oM,aM oM,aM oM,aM oM,aM oM,aM oM]
 go_in
 go_wp2;go_ret;exact⟨BA c.symm,rfl⟩
def iq(s:ByteArray)(f:Int):Bool:=s.1.1.any λc=>(c.toNat:Int)==f
theorem DK{s:ByteArray}(a:n<s.size)(h:(s[n].toNat:Int)=t):iq s t=true:=by
 unfold iq;rw[List.any_eq_true];exact⟨s[n],by rw[nB];exact Array.getElem_mem a,by simp[h]⟩
theorem EE{s:ByteArray}(h:∀j (a:j<s.size),(s[j].toNat:Int)≠t):iq s t=false:=by
 unfold iq;rw[List.any_eq_false];intro c b;obtain⟨j,a,rfl⟩:=Array.mem_iff_getElem.1<|nB.1 b;have:=h j a;rw[iA];exact this
theorem q7(a:Int):(Kz a).size<=3:=by
 unfold Kz
 repeat (split<;>try decide)
theorem U9:
 Calls prog 37 #[Hp t,.int .u8 T] w λe n=>e=.returned (.bool (iq (Kz t) T))/\n=w:=by
 go_in
 go_wp2_with fail
 refine(qX _ _).mono ?_;rintro e q⟨rfl,rfl⟩;have p:=q7 t;generalize f:Kz t=s at*;have d:=Xa f;clear f;go_wp2
 go_loop [6] (λi=>∃k:Nat,k<=s.size/\i=Hp k/\Hs (∀j (b:j<s.size),j<k->(s[j].toNat:Int)≠T)) λi=>s.size-(intOf i).toNat
 case atStart=>exact⟨0,aN,rfl,λj b h=>absurd h oM⟩
 obtain⟨k,o,rfl,g⟩:=hrel;by_cases m:k<s.size
 .by_cases a:(s[k].toNat:Int)=T
  .have l:((s[k].toNat:Int)==T)=true:=by simp[a]
   have c:=Xa a;clear a;go_wp2;go_ret;exact⟨Xl (by rw[Xw d];exact(DK m c).symm),rfl⟩
  have l:((s[k].toNat:Int)==T)=false:=by simp[a]
  have c:=Xa a;clear a;go_wp2
  go_round
  case rel=>exact⟨k+1,oM,gM,λj b h=>if e:j=k then by subst e;exact c else g j b oM⟩
  simp[intOf];omega
 go_wp2;go_ret;exact⟨Xl (by rw[Xw d];exact(EE λj b=>g j b oM).symm),rfl⟩
theorem zW50{p: Prop}(h: p := by
  obtain rfl|rfl|rfl|rfl|rfl|rfl|rfl|rfl|rfl|rfl|rfl|rfl|rfl:=a<;>rfl): p := h
theorem xj:iq (Kz t) 100=dB t:=by
 by_cases h:1<=t/\t<=13
 .have a:t=1\/t=2\/t=3\/t=4\/t=5\/t=6\/t=7\/t=8\/t=9\/t=10\/t=11\/t=12\/t=13:=oM;exact zW50
 unfold Kz;rw[aM oM,aM oM,aM oM,aM oM,aM oM,aM oM,aM oM,aM oM,aM oM];simp only[iq,dB];rw[dJ oM,dJ oM,dJ oM];rfl
theorem xh:iq (Kz t) 97=aB t:=by
 by_cases h:1<=t/\t<=13
 .have a:t=1\/t=2\/t=3\/t=4\/t=5\/t=6\/t=7\/t=8\/t=9\/t=10\/t=11\/t=12\/t=13:=oM;exact zW50
 unfold Kz;rw[aM oM,aM oM,aM oM,aM oM,aM oM,aM oM,aM oM,aM oM,aM oM];simp only[iq,aB];rw[dJ oM];rfl
theorem xg:iq (Kz t) 98=bB t:=by
 by_cases h:1<=t/\t<=13
 .have a:t=1\/t=2\/t=3\/t=4\/t=5\/t=6\/t=7\/t=8\/t=9\/t=10\/t=11\/t=12\/t=13:=oM;exact zW50
 unfold Kz;rw[aM oM,aM oM,aM oM,aM oM,aM oM,aM oM,aM oM,aM oM,aM oM];simp only[iq,bB];rw[dJ oM,dJ oM];rfl
theorem nZ(a:Int)(w:Ub):Calls prog 37 #[Hp a,.int .u8 100] w λe b=>e=.returned (.bool (dB a))/\b=w:=xj▸U9
theorem vG(a:Int)(w:Ub):Calls prog 37 #[Hp a,.int .u8 97] w λe b=>e=.returned (.bool (aB a))/\b=w:=xh▸U9
theorem vU(a:Int)(w:Ub):Calls prog 37 #[Hp a,.int .u8 98] w λe b=>e=.returned (.bool (bB a))/\b=w:=xg▸U9
theorem ZO(t:Yj)(w:Ub):
 Calls prog 128 #[.agg #[Hp t.1,Hp t.a,Hp t.3,Hp t.4]] w λj f=>∃g c,j=.returned (.slice g t.tg.length c)/\Below w.1.size w f/\Xf f w.1.size f.1.size g t.tg:=by
 let⟨b,l,tg,k⟩:=t;by_cases d:b=1
 .subst d
  go_in
  go_wp2;go_ret;refine⟨_,_,rfl,Xb (Xb (Below.refl _ _) _) _,λi a=>?_⟩;simp[Yj.tg]at a;subst a;exact⟨_,_,rfl,⟨sP,sP⟩,by simp[Yj.tg]⟩
 by_cases e:b=2
 .subst e
  go_in
  go_wp2;go_ret;refine⟨_,_,rfl,Xb (Xb (Below.refl _ _) _) _,λi a=>?_⟩;simp[Yj.tg]at a
  match i,a with
  |0,_=>exact⟨_,_,rfl,⟨sP,sP⟩,by simp[Yj.tg]⟩
  |1,_=>exact⟨_,_,rfl,⟨sP,sP⟩,by simp[Yj.tg]⟩
 have e1:(b==1)=false:=by simp[d]
 have e2:(b==2)=false:=by simp[e]
 have h:(Yj.tg ⟨b,l,tg,k⟩)=[]:=by simp[Yj.tg,d,e]
 rw[h]
 go_in
 go_wp2;go_ret;exact⟨_,_,rfl,Xb (Xb (Below.refl _ _) _) _,λi a=>absurd a sP⟩
def To(b a x:Int):Bool:=decide (b<=x)&&decide (x<a)
theorem Ep{a tg b:Int}:Zu t T z ⟨1,a,tg,b⟩=(a==0&&To T z tg&&b==0):=by simp[Zu,Tp,To]
theorem ES{a tg b:Int}:Zu t T z ⟨2,a,tg,b⟩=(To 0 t a&&To T z tg&&To T z b):=by simp[Zu,Tp,To]
theorem EO{a tg b:Int}:Zu t T z ⟨3,a,tg,b⟩=(To 0 t a&&tg==0&&b==0):=by simp[Zu,Tp,To]
theorem ug{k a tg b:Int}(h:¬(1<=k/\k<=3)):Zu t T z ⟨k,a,tg,b⟩=false:=by
 unfold Zu;by_cases c:1<=k;·rw[dJ (p:=k<=3) oM];simp
 rw[dJ (p:=1<=k) c];simp
theorem XY{b:Type}{p:b->Bool}{a:List b}(c:n<a.length)(h:(a.take n).all p=true)(d:p a[n]=true):(a.take<|n+1).all p=true:=by
 rw[X7 c,List.all_append,h];simp[d]
theorem JN{a:Type}{p:a->Bool}{xs:List a}(b:k<xs.length)(c:p xs[k]=false):xs.all p=false:=by
 rw[lZ];exact⟨_,aH b,by simp[c]⟩
theorem YE{a:Type}{p:a->Bool}{xs:List a}(b:xs.length<=k)(h:(xs.take k).all p=true):xs.all p=true:=by
 rwa[aW b]at h
theorem zW6b0{p: Prop}(h: p := by
  go_in
  go_wp2_with (go_at_call 128;refine(ZO ⟨_,_,_,_⟩ _).mono ?_;rintro l x⟨s,c,rfl,g,b⟩;rw[Xw m]at b |-;have j:=Xa b;clear b)
  go_loop [10] (λi=>∃k:Nat,k<=a.length/\i=Hp k/\Hs ((a.take k).all (To low e)=true)) λi=>a.length-(intOf i).toNat
  case atStart=>exact⟨0,aN,rfl,rfl⟩
  case round=>
   obtain⟨k,u,rfl,f⟩:=hrel;by_cases d:k<a.length
   .obtain⟨y,B,rfl,_,n⟩:=j k d;by_cases o:low<=a[k]/\a[k]<e
    .let⟨p,q⟩:=o;go_wp2
     go_round
     case rel=>exact⟨k+1,oM,gM,XY d f<|by simp[To,p,q]⟩
     simp[intOf];omega
    go_wp2
    all_goals
     go_ret;exact⟨Xl (by rw[<-h.o];exact(JN d<|by unfold To;rw[jD,fC,fC];omega).symm),Xg (Xb (Below.refl _ _) _) g⟩
   go_wp2;go_ret
   exact⟨Xl (by rw[<-h.o];exact(YE oM f).symm),Xg (Xb (Below.refl _ _) _) g⟩): p := h
theorem Kj{tg v low e:Int}(a:Wc)(m:Hs ((Yj.mk t T tg z).tg=a))(A:a.length<=2)(E:1<=t)(F:t<=3)(c1:Hs (t=1->T=0/\z=0))(c3:Hs (t=3->tg=0/\z=0))(c2:Hs (t≠1->0<=T/\T<v))(h:Hs (a.all (To low e)=r)):
 Calls prog 67 #[.agg #[Hp t,Hp T,Hp tg,Hp z],Hp v,Hp low,Hp e] w λl C=>l=.returned (.bool r)/\Below w.1.size w C:=by
 have n:t=1\/t=2\/t=3:=oM;have D:=Xa A;obtain rfl|rfl|rfl:=n
 .obtain⟨rfl,rfl⟩:=c1 rfl;exact zW6b0
 .let⟨d1,d2⟩:=c2 vY;exact zW6b0
 let⟨d1,d2⟩:=c2 vY;obtain⟨rfl,rfl⟩:=c3 rfl
 go_in
 go_wp2_with (go_at_call 128;refine(ZO ⟨_,_,_,_⟩ _).mono ?_;rintro l x⟨s,c,rfl,g,b⟩;rw[Xw m]at b |-;have j:=Xa b;clear b)
 go_loop [10] (λi=>∃k:Nat,k<=a.length/\i=Hp k/\Hs ((a.take k).all (To low e)=true)) λi=>a.length-(intOf i).toNat
 case atStart=>exact⟨0,aN,rfl,rfl⟩
 obtain⟨k,u,rfl,f⟩:=hrel;by_cases d:k<a.length
 .have:=m.o;simp[Yj.tg]at this;subst this;simp at d
 go_wp2;go_ret;exact⟨Xl (by rw[<-h.o];exact(YE oM f).symm),Xg (Xb (Below.refl _ _) _) g⟩
theorem zW6b1{p: Prop}(h: p := by
  go_in
  go_wp2;go_ret
  exact⟨rfl,Xb (Below.refl _ _) _⟩): p := h
theorem zW6b2{p: Prop}(h: p := by
  go_in
  go_wp2
  all_goals
   go_ret
   exact⟨rfl,Xb (Below.refl _ _) _⟩): p := h
theorem Ju{tg n low e:Int}(h:¬(1<=t/\t<=3)\/(t=1/\¬(T=0/\z=0))\/(t=3/\¬(tg=0/\z=0))\/(1<=t/\t<=3/\t≠1/\¬(0<=T/\T<n))):
 Calls prog 67 #[.agg #[Hp t,Hp T,Hp tg,Hp z],Hp n,Hp low,Hp e] w λf i=>f=.returned (.bool false)/\Below w.1.size w i:=by
 by_cases c:1<=t/\t<=3
 .have g:t=1\/t=2\/t=3:=oM;obtain rfl|rfl|rfl:=g
  .have a:¬(T=0/\z=0):=oM;by_cases b:T=0
   .subst b;have d:(z != 0)=true:=by simp at a;simp[a]
    exact zW6b1
   have d:(T != 0)=true:=by simp[b]
   exact zW6b1
  .have a:T<0\/n<=T:=oM;exact zW6b2
  by_cases a:tg=0/\z=0
  .obtain⟨rfl,rfl⟩:=a;have a:T<0\/n<=T:=oM;exact zW6b2
  clear h c;by_cases b:tg=0
  .subst b;have d:(z != 0)=true:=by simp at a;simp[a]
   exact zW6b1
  have d:(tg != 0)=true:=by simp[b]
  exact zW6b1
 have a:t<1\/3<t:=oM;exact zW6b2
theorem KS{tg n low b:Int}:
 Calls prog 67 #[.agg #[Hp t,Hp T,Hp tg,Hp z],Hp n,Hp low,Hp b] w λe g=>e=.returned (.bool (Zu n low b ⟨t,T,tg,z⟩))/\Below w.1.size w g:=by
 by_cases d:1<=t/\t<=3
 .have f:t=1\/t=2\/t=3:=oM;obtain rfl|rfl|rfl:=f
  .rw[Ep];by_cases h:T=0/\z=0;·exact Kj [tg] rfl sP vY vY (λ_=>h) (λe=>oM) (λe=>absurd rfl e) (by obtain⟨rfl,rfl⟩:=h;show _=_;simp)
   have e:(T==0&&To low b tg&&z==0)=false:=by
    by_cases a:T=0
    .have:z≠0:=λe=>h ⟨a,e⟩;simp[this]
    simp[a]
   rw[e];exact Ju<|aZ (bC ⟨rfl,h⟩)
  .rw[ES];by_cases h:0<=T/\T<n;·exact Kj [tg,z] rfl sP vY vY (λe=>oM) (λe=>oM) (λ_=>h) (by show _=_;simp[To,h.1,h.2])
   have e:To 0 n T=false:=by unfold To;rw[jD,fC,fC];omega
   rw[e];exact Ju oM
  rw[EO];by_cases h:0<=T/\T<n
  .by_cases c:tg=0/\z=0;·exact Kj [] rfl sP vY vY (λe=>oM) (λ_=>c) (λ_=>h) (by obtain⟨rfl,rfl⟩:=c;show _=_;simp[To,h.1,h.2])
   have e:(To 0 n T&&tg==0&&z==0)=false:=by
    by_cases a:tg=0
    .have:z≠0:=λe=>c ⟨a,e⟩;simp[this]
    simp[a]
   rw[e];exact Ju oM
  have e:To 0 n T=false:=by unfold To;rw[jD,fC,fC];omega
  rw[e];exact Ju oM
 rw[ug d];exact Ju<|bC d
def Cg(a:Wc)(x:Int):Bool:=a.contains x
theorem qu(c:Nat)(x:Int)(ha:Hs (Xf w m k p l))(r:Hs (n=l.length))(z:n<=100000000):
 Calls prog 70 #[.slice p n c,Hp x] w λe t=>e=.returned (.bool (Cg l x))/\t=w:=by
 go_in
 go_wp2
 go_loop [5] (λi=>∃a:Nat,a<=n/\i=Hp a/\Hs (∀j (h:j<l.length),j<a->l[j]≠x)) λi=>n-(intOf i).toNat
 case atStart=>exact⟨0,aN,rfl,λj d h=>absurd h oM⟩
 obtain⟨a,v,rfl,q⟩:=hrel;by_cases y:a<n
 .have o:a<l.length:=oN r.o;obtain⟨u,A,rfl,_,g⟩:=ha a o;by_cases b:l[a]=x
  .have s:(l[a]==x)=true:=by simp[b]
   have f:=Xa b;go_wp2;go_ret;exact⟨Xl (by unfold Cg;rw[nJ,eY,<-f.o];exact aH o),rfl⟩
  have s:(l[a]==x)=false:=by simp[b]
  have f:=Xa b;go_wp2
  go_round
  case rel=>exact⟨a+1,oM,gM,λj d h=>if e:j=a then by subst e;exact f else q j d oM⟩
  simp[intOf];omega
 go_wp2;go_ret
 exact⟨Xl (by
  rw[nJ,lY];intro g;let⟨j,d,e⟩:=bR (eY.1<|show l.contains x=true from g);exact q j d (oN r.o) e),rfl⟩
theorem YF(b:Uy)(c:Nat)(x:Int)(a:Wc)(L B:Nat)(w:Ub)(ha:Hs (Xf w L B b a))(d:Hs (n=a.length))(g:n<=1048576):
 Calls prog 70 #[.slice b n c,Hp x] w λe f=>e=.returned (.bool (Cg a x))/\f=w :=
 qu c x ha d oM
theorem Bi(t:Yj)(b:Int):t.tg.contains b=true↔(t.1=1/\t.3=b)\/(t.1=2/\(t.3=b\/t.4=b)):=by
 unfold Yj.tg;by_cases a:t.1=1
 .rw[aU a];simp only[a,true_and,eY,cS];constructor;·intro h;exact bC h.symm
  rintro(h|⟨h,_⟩);·exact h.symm
  omega
 rw[aM a];by_cases c:t.1=2
 .rw[aU c];simp only[c,true_and,eY,cH,eA,lL];constructor
  .rintro(h|h);·exact aZ<|bC h.symm
   exact aZ<|aZ h.symm
  rintro(⟨h,_⟩|h|h);·omega
  .exact bC h.symm
  exact aZ h.symm
 rw[aM c];simp[a,c]
theorem ZK(x:Xe)(b:Int):∀(a:Wi)(i:Nat),AQ (a++[x]) i b=AQ a i b++(if x.3.tg.contains b then [((i+a.length:Nat):Int)]else [])
 |[],i=>by simp[AQ]
 |y::ys,i=>by
  simp only[cW,AQ];have e:i+1+ys.length=i+(ys.length+1):=oM;rw[ZK x b ys<|i+1,cK,e,bA]
theorem YO(b:Int):∀(a:Wi)(i:Nat),(AQ a i b).length<=a.length
 |[],_=>aA
 |y::ys,i=>by
  simp only[AQ,aQ,bA];have:=YO b ys<|i+1;split<;>simp<;>omega
theorem Xk{xs:Wc}(h:w.ownsRow n m 1 a k (xs.map<|Value.int .i64)):∃e c,a=.slice e xs.length c/\Xf w n w.1.size e xs:=by
 obtain⟨d,h|⟨o,r,l,rfl,p,g,s,_,q,j⟩⟩:=h
 .obtain⟨rfl,rfl⟩:=h;have:xs=[]:=by simpa using d
  subst this;exact⟨_,_,rfl,λi b=>absurd b sP⟩
 simp only[iN,bK]at d q j;subst d;refine⟨_,_,rfl,λi b=>⟨o,0,rfl,⟨p,?_⟩,?_⟩⟩;·exact(aS.1 g).1
 have f:(l.1.take xs.length)[i]?=some (Hp xs[i]):=by rw[j];simp[b]
 rw[fH b]at f;simp only[World.cell?,g,aV];simpa using f
theorem YJ(c:w.grownBy v a.ownBlock)(d:w.ownsRow n m k a B y){b:Nat}(f:b<n)(e:b<w.1.size):v.1[b]?=w.1[b]? :=
 c.5 b e λh=>by have:=(d.lt b h.symm).1;omega
theorem Xy(h:Below n w v)(b:v.grownBy u a.ownBlock)(d:v.ownsRow m k B a g y)(i:n<=m)(e:n<=v.1.size):Below n w u :=
 h.grown b e λf c=>by have:=(d.lt f c).1;omega
theorem K5(w:Ub)(o:Obj):((w.alloc o).alloc (.cells #[] 2)).ownsRow (w.1.size+1) 2 1 (.slice (some ⟨w.1.size+1,0,none⟩) 0 0) 0 []:=by
 have h:=eI (base:=w.1.size+1) (e:=2) (size:=1) (w.alloc o) #[] 0 sP sP rfl;rw[aO]at h;exact h
theorem Yl:(l++[t]).map (Value.int .i64)=l.map (Value.int .i64)++[Hp t]:=sP
theorem ZE(V:Int)(c:Nat)(q:Int)(ha:Hs (Xp w m k p x))(F:Hs (n=x.length))(hn:n<=1048576)(J:k<=w.1.size):
 Calls prog 68 #[.agg #[Hp V,.slice p n c],Hp q] w λl y=>∃z H,l=.returned (.slice z (AQ x 0 q).length H)/\Below w.1.size w y/\Xf y w.1.size y.1.size z (AQ x 0 q):=by
 let⟨S,M,P,Q,R⟩:=fX RH
 go_in
 go_wp2
 go_loopw [5,6] (λv u wr=>∃a:Nat,a<=n/\u=Hp a/\Below w.1.size w wr/\w.1.size<wr.1.size/\wr.cell? (Hk w.1.size 1)=some (.slice p n c)/\wr.ownsRow (w.1.size+1) 2 1 v (AQ (x.take a) 0 q).length ((AQ (x.take a) 0 q).map (Value.int .i64))) λ_ u _=>n-(intOf u).toNat
 case atStart=>exact⟨0,aN,rfl,Xb (Xb (Below.refl _ _) _) _,by simp;omega,sP,K5 _ _⟩
 obtain⟨a,hk,rfl,i,D,B,g⟩:=hrel;by_cases aa:a<n
 .have t:a<x.length:=oN F.o
  obtain⟨Y,ac,rfl,⟨_,Z⟩,A⟩:=ha a t;let⟨pa,pc,ia,ic,_,_,⟨e2,e3,e4,e5⟩,_,_⟩:=A.keep (i.mono J) oM;have f:Hs (AQ (x.take<|a+1) 0 q=AQ (x.take a) 0 q++(if x[a].3.tg.contains q then [(a:Int)]else [])):=by
   show _=_;rw[X7 t,ZK];simp[jZ<|dU t]
  have ab:(AQ (x.take a) 0 q).length<=1048576:=by have:=YO q (x.take a) 0;simp at this;omega
  have d:=Xa g;have h:=Xa<|Bi x[a].3 q;generalize x[a]=X at*;by_cases b:X.3.tg.contains q=true
  .have j:Hs (AQ (x.take<|a+1) 0 q=AQ (x.take a) 0 q++[(a:Int)]):=by have:=f.o;rw[aU b]at this;exact this
   have o:=h.1 b;generalize AQ (x.take a) 0 q=U at*;have r:(X.3.1=1/\X.3.3=q)\/(X.3.1=2/\X.3.3=q)\/(X.3.1=2/\X.3.3≠q/\X.3.4=q):=oM;obtain⟨d1,d2⟩|⟨d1,d2⟩|⟨d1,d3,d2⟩:=r
   all_goals
    go_wp2_with (at_builtin;refine fT _ rfl _ _ 41 rfl (w.1.size+1) 2 S (Hp 0) 1 8 underlying41 M P Q R rfl vY _ _ _ rfl ((d.alloc _).alloc _) (Hk (wr.1.size+1) 0) 1 1 [Hp a] rfl rfl ?c1 ?c2 ?c3 ?c4 ?c5 ?_)
    case c1=>
     intro T v e
     match T,e with
     |0,e=>simp at e;subst e;simp[Addr.add]
    case c2=>intro v E;simp at E;subst E;rfl
    case c3=>unfold maxLen;omega
    case c4=>omega
    case c5=>simp;omega
    intro v1 w1 C s _;have G:=Xa C;go_wp2;have K:=Xy (Xb (Xb i _) _) s ((d.alloc _).alloc _) oM (by simp;omega);have L:=YJ s ((d.alloc _).alloc _) (b:=w.1.size) oM (by simp;omega);have O:=s.4;simp at O;exact⟨⟨a+1,oM,gM,K,oM,(Xc L).trans (oB (Xb (Xb (Below.refl wr.1.size wr) _) _) B D),by rw[j.o,Yl];simpa using G.o⟩,by simp[intOf];omega⟩
  have j:Hs (AQ (x.take<|a+1) 0 q=AQ (x.take a) 0 q):=by have:=f.o;rw[aM b,fF]at this;exact this
  have o:¬((X.3.1=1/\X.3.3=q)\/(X.3.1=2/\(X.3.3=q\/X.3.4=q))):=λI=>b<|h.2 I
  generalize AQ (x.take a) 0 q=U at*;have r:(X.3.1=1/\(X.3.3==q)=false)\/(X.3.1=2/\(X.3.3==q)=false/\(X.3.4==q)=false)\/((X.3.1==1)=false/\(X.3.1==2)=false):=by
   simp only[iS];omega
  obtain⟨d1,d2⟩|⟨d1,d2,d3⟩|⟨d1,d2⟩:=r
  all_goals
   go_wp2;exact⟨⟨a+1,oM,gM,Xb i _,by simp;omega,oB (Xb (Below.refl wr.1.size wr) _) B D,by rw[j.o];exact d.alloc _⟩,by simp[intOf];omega⟩
 go_wp2;go_ret;have l:=aW (l:=x) (i:=a) (oN F.o);rw[l]at g;obtain⟨W,c1,rfl,N⟩:=Xk g;exact⟨_,_,rfl,i,N.mono oM<|aA⟩
section
open Go.Deep
structure IW(L B:Nat)(w w':Ub):Prop where
 os:w'.4=w.4
 tape:w'.2=w.2
 output:w'.5=w.5
 size:w'.1.size=w.1.size
 block:∀k,¬(L<=k/\k<B)->w'.1[k]?=w.1[k]?
 cell:∀p,w'.cell? p=w.cell? p\/∃u v,w.cell? p=some (.int .i64 u)/\w'.cell? p=some (.int .i64 v)
 frozen:∀p,w'.frozen? p=w.frozen? p
variable {w w' w1: Ub} {L B: Nat}
theorem IW.refl(L B:Nat)(w:Ub):IW L B w w:=⟨rfl,rfl,rfl,rfl,λ_ _=>rfl,λ_=>bC rfl,λ_=>rfl⟩
theorem IW.trans{c:Ub}(h:IW L B w w1)(k:IW L B w1 c):IW L B w c:=by
 refine⟨k.1.trans h.1,k.2.trans h.2,k.3.trans h.3,k.4.trans h.4,λi b=>(k.5 i b).trans (h.5 i b),λp=>?_,λp=>(k.7 p).trans (h.7 p)⟩;obtain e|⟨u,v,e1,e2⟩:=k.6 p
 .rcases h.6 p with f|⟨u,v,f1,f2⟩;·exact bC<|e.trans f
  exact aZ ⟨u,v,f1,e.trans f2⟩
 obtain f|⟨d,g,f1,f2⟩:=h.6 p;·exact aZ ⟨u,v,f.symm.trans e1,e2⟩
 exact aZ ⟨d,v,f1,e2⟩
theorem IW.set(h:IW L B w w1){b o:Nat}(f:L<=b/\b<B){u:Int}(c:w1.cell? ⟨b,o,none⟩=some (.int .i64 u))(v:Int):IW L B w (w1.setCell ⟨b,o,none⟩ (.int .i64 v)):=by
 refine h.trans ⟨rfl,rfl,rfl,by simp[World.setCell],λk d=>Below.heap_setCell _ _ _ _ (by dsimp only;omega),λp=>?_,λp=>eX _ _ _ _⟩;by_cases e:p=(Hk b o)
 .subst e;exact aZ ⟨u,v,c,fQ _ _ _ c⟩
 exact bC<|cJ λh=>e h.symm
theorem IW.int(h:IW L B w w'){p:Addr}{u:Int}(b:w.cell? p=some (Hp u)):∃v,w'.cell? p=some (Hp v):=by
 obtain e|⟨_,v,_,e⟩:=h.6 p;·exact⟨u,e.trans b⟩
 exact⟨v,e⟩
theorem IW.slice(h:IW L B w w'){p:Addr}{a:Uy}{n c:Nat}(b:w.cell? p=some (.slice a n c)):w'.cell? p=some (.slice a n c):=by
 obtain e|⟨u,_,e,_⟩:=h.6 p;·exact e.trans b
 rw[b]at e;cases e
def iy(L B:Nat)(w:Ub):Prop:=∀b o,L<=b/\b<B->w.frozen? ⟨b,o,none⟩=false
theorem iy.of{L B:Nat}{w:Ub}(h:ij L w):iy L B w:=λb o c=>h b o c.1
theorem iy.keepS{L B:Nat}{w w':Ub}(h:iy L B w)(k:YA L B w w'):iy L B w':=λc o b=>(bJ<|k c b.1 b.2).trans (h c o b)
theorem iy.setCell{L B:Nat}{w:Ub}(h:iy L B w)(p:Addr)(v:Uj):iy L B (w.setCell p v):=λb o c=>by rw[eX];exact h b o c
variable {L' B': Nat} {a: Uy}
theorem Jk.iw{b o:Nat}{x:Yg}(h:Jk w b o x)(k:IW L' B' w w'):∃y:Yg,Jk w' b o y:=by
 let⟨d,e,f,g,i⟩:=h;let⟨j,c⟩:=k.int d;let⟨v1,e1⟩:=k.int e;let⟨v2,e2⟩:=k.int f;let⟨v3,e3⟩:=k.int g;let⟨v4,e4⟩:=k.int i;exact⟨⟨j,v1,v2,v3,v4⟩,c,e1,e2,e3,e4⟩
theorem Va.iw{b o:Nat}{x:Yj}(h:Va w b o x)(k:IW L' B' w w'):∃y:Yj,Va w' b o y:=by
 let⟨d,e,f,g⟩:=h;let⟨i,c⟩:=k.int d;let⟨v1,e1⟩:=k.int e;let⟨v2,e2⟩:=k.int f;let⟨v3,e3⟩:=k.int g;exact⟨⟨i,v1,v2,v3⟩,c,e1,e2,e3⟩
end
def Zx(w:Ub)(L B:Nat)(c:Uy)(a:Wo):Prop:=∀i (h:i<a.length),∃b o,c=some ⟨b,o,none⟩/\(L<=b/\b<B)/\w.cell? ⟨b,o+i,none⟩=some a[i]
theorem Zx.keepS{w':Ub}(h:Zx w n m p y)(k:YA n m w w'):Zx w' n m p y:=λi d=>by
 let⟨b,o,e,a,c⟩:=h i d;exact⟨b,o,e,a,by rw[Xc<|k b a.1 a.2];exact c⟩
theorem UO(h:w.ownsRow n m 1 a k y):∃j c,a=.slice j y.length c/\Zx w n w.1.size j y:=by
 obtain⟨f,h|⟨g,s,o,rfl,p,e,t,_,q,l⟩⟩:=h
 .obtain⟨rfl,rfl⟩:=h;have:y=[]:=by simpa using f
  subst this;exact⟨_,_,rfl,λi b=>absurd b sP⟩
 simp only[iN]at f q l;subst f;refine⟨_,_,rfl,λi b=>⟨g,0,rfl,⟨p,?_⟩,?_⟩⟩
 .rcases mL g w.1.size with d|d;·exact d
  rw[iI d]at e;cases e
 rw[aV,cell_of_row w g i o m (0,0) e,<-mX];have:=fI (λr:Wo=>r[i]?) l;simp only[List.getElem?_take,b,gG]at this;rw[this,aC b]
theorem uk(w:Ub)(a:Wo)(t:TypeId):Zx (w.alloc<|.cells a.toArray t) w.1.size (w.1.size+1) (some ⟨w.1.size,0,none⟩) a:=λi b=>
 ⟨_,0,rfl,⟨aA,iJ⟩,by simp[b]⟩
def Yx(w:Ub)(L B:Nat)(a:Uy)(bs:Wn):Prop:=∀i (h:i<bs.length),∃b o,a=some ⟨b,o,none⟩/\(L<=b/\b<B)/\w.cell? ⟨b,o+i,none⟩=some (.int .u8 (bs[i].toNat:Int))
theorem Yx.keepS{w':Ub}{c:Wn}(h:Yx w n m p c)(k:YA n m w w'):Yx w' n m p c:=λi f=>by
 let⟨b,o,e,a,d⟩:=h i f;exact⟨b,o,e,a,by rw[Xc<|k b a.1 a.2];exact d⟩
theorem Yx.keep{w':Ub}{a:Wn}(h:Yx w n m p a)(k:Below m w w'):Yx w' n m p a:=h.keepS<|YA.of_below k
theorem Zk(h:w.ownsRow n k B a g y)(i:m<=n):w.ownsRow m k B a g y:=by
 obtain⟨b,f|⟨e,c,d,l,j,r⟩⟩:=h;·exact⟨b,.inl f⟩
 exact⟨b,.inr ⟨e,c,d,l,aJ i j,r⟩⟩
def Tx(p:Addr):Uj:=.pointer (some p)
def Yd:List Bool->List Addr->List Addr
 |k::ks,p::ps=>if k then p::Yd ks ps else Yd ks ps
 |_,_=>[]
theorem BB(b:List Bool)(a:List Addr)(k:Bool)(p:Addr)(h:b.length=a.length):Yd (b++[k]) (a++[p])=Yd b a++(if k then [p]else []):=by
 induction b generalizing a with
 |nil=>cases a with
  |nil=>cases k<;>rfl
  |cons q r=>simp at h
 |cons x r c=>cases a with
  |nil=>simp at h
  |cons q s=>cases x<;>simp[Yd,c s<|by simpa using h]
theorem CS(b:List Bool)(a:List Addr):(Yd b a).length<=a.length:=by
 induction b generalizing a with
 |nil=>simp[Yd]
 |cons x r c=>cases a with
  |nil=>simp[Yd]
  |cons q s=>have:=c s;cases x<;>simp[Yd]<;>omega
theorem QZ:(prog.info? 266).map (λi=>(i.8,i.3,i.4))=some (some<|.pointer none,1,8):=vZ
theorem Ct{l:List Addr}{v:Addr}:(l++[v]).map Tx=l.map Tx++[Tx v]:=sP
theorem BI(w:Ub):(w.alloc<|.cells #[] 266).ownsRow w.1.size 266 1 (.slice (some ⟨w.1.size,0,none⟩) 0 0) 0 []:=by
 have:=eI (base:=w.1.size) (e:=266) (size:=1) w #[] 0 sP sP rfl;simpa using this
theorem UA(t j:Uy)(P C:Nat)(b:List Bool)(a:List Addr)(L B:Nat)(w:Ub)(l:B<=w.1.size)(G:Hs (Zx w L B t<|b.map Value.bool))(I:Hs (Zx w L B j<|a.map Tx))(p:Hs (b.length=a.length))(V:a.length<=1000):
 Calls prog 159 #[.slice t b.length P,.slice j a.length C] w λh x=>∃v,h=.returned v/\Below w.1.size w x/\x.ownsRow w.1.size 266 1 v (Yd b a).length ((Yd b a).map Tx):=by
 let⟨O,F,J,M,N⟩:=fX QZ
 go_in
 go_wp2
 go_loopw [5,11] (λv i wr=>∃k:Nat,k<=a.length/\i=Hp k/\Hs (Below w.1.size w wr)/\Hs (wr.ownsRow w.1.size 266 1 v (Yd (b.take k) (a.take k)).length ((Yd (b.take k) (a.take k)).map Tx))) λ_ i _=>a.length-(intOf i).toNat
 case atStart=>exact⟨0,aN,rfl,Xa<|Xb (Below.refl _ _) _,Xa<|by simpa [Yd]using BI w⟩
 obtain⟨k,U,rfl,c,d⟩:=hrel;have W:=c.4;by_cases q:k<a.length
 .have o:k<b.length:=oN p.o;obtain⟨R,X,rfl,⟨_,S⟩,E⟩:=(G.keepS<|YA.of_below (c.mono l)) k (by simpa using o);obtain⟨b2,Y,rfl,⟨_,T⟩,m⟩:=(I.keepS<|YA.of_below (c.mono l)) k (by simpa using q);rw[cM]at E m;unfold Tx at m;have g:Hs (Yd (b.take<|k+1) (a.take<|k+1)=Yd (b.take k) (a.take k)++(if b[k]then [a[k]]else [])):=Xa (by rw[bN o,bN q,BB _ _ _ _<|by simp only[dH];omega]);have f:Hs ((Yd (b.take k) (a.take k)).length+1<=2000):=Xa (by have:=CS (b.take k) (a.take k);simp only[dH]at this;omega);generalize b[k]=K at*;generalize a[k]=u at*;cases K with
  |false=>
   have e:Hs (wr.ownsRow w.1.size 266 1 u5 (Yd (b.take<|k+1) (a.take<|k+1)).length ((Yd (b.take<|k+1) (a.take<|k+1)).map Tx)):=Xa (by rw[g.o];simpa using d.o);go_wp2;exact⟨⟨k+1,oM,gM,c,e⟩,by simp[intOf];omega⟩
  |true=>
   have A:Hs (Yd (b.take<|k+1) (a.take<|k+1)=Yd (b.take k) (a.take k)++[u]):=Xa (by have:=g.o;simpa using this);go_wp2_with (at_builtin;refine bT _ rfl _ _ 201 rfl w.1.size 266 O (.pointer none) 1 8 underlying201 F J M N rfl vY _ _ _ rfl (d.alloc _) (Hk wr.1.size 0) 1 1 [.pointer (some u)] rfl rfl ?c1 ?c2 ?c3 ?c4 ?c5 ?_)
   case c2=>first|rfl|simp|(intro Z s;simp at s;subst s;rfl)
   case c3=>have:=f.o;unfold maxLen;omega
   case c4=>have:=f.o;omega
   case c5=>first|omega|(simp;omega)
   intro v1 Q r n H D;have e:Hs (Q.ownsRow w.1.size 266 1 v1 (Yd (b.take<|k+1) (a.take<|k+1)).length ((Yd (b.take<|k+1) (a.take<|k+1)).map Tx)):=Xa (by rw[A.o,Ct,aQ];exact r);have y:=Xa (Xy ((c).alloc oM _) n (d.alloc _) aA (by simp;omega));go_wp2;exact⟨⟨k+1,oM,gM,y,e⟩,by simp[intOf];omega⟩
 have z:Hs (wr.ownsRow w.1.size 266 1 u5 (Yd b a).length ((Yd b a).map Tx)):=Xa (by have:=d.o;have h:=p.o;rwa[aW oM,aW oM]at this);go_wp2;go_ret;exact⟨_,rfl,c,z⟩
def K8(l:Wn):ByteArray:=⟨l.toArray⟩
theorem i7(l:Wn):(K8 l).size=l.length:=by simp[K8,ByteArray.size]
def bz(a:Int):Wn :=
 if a=1 then [99,111,110,115,116]else if a=2 then [97,114,103]else if a=3 then [97,100,100]else if a=4 then [115,117,98]else if a=5 then [109,117,108]
 else if a=6 then [100,105,118]else if a=7 then [108,101,115,115]else if a=8 then [108,111,97,100]else if a=9 then [115,116,111,114,101]else if a=11 then [109,111,118,101]else if a=12 then [112,117,116]else if a=13 then [103,101,116]else [111,117,116]
theorem Lb(a:Int)(h:1<=a/\a<=13)(w:Ub):
 Calls prog 127 #[Hp a] w λe c=>e=.returned (.string (K8<|bz a))/\c=w:=by
 have b:a=1\/a=2\/a=3\/a=4\/a=5\/a=6\/a=7\/a=8\/a=9\/a=10\/a=11\/a=12\/a=13:=oM;obtain rfl|rfl|rfl|rfl|rfl|rfl|rfl|rfl|rfl|rfl|rfl|rfl|rfl:=b
 all_goals
  go_in
  go_wp2;go_ret;exact⟨rfl,rfl⟩
theorem AT{b a:Int}:
 Calls prog 180 #[.agg #[Hp t,Hp T,Hp z,Hp b,Hp a]] w λe c=>e=.returned (.bool (Wu ⟨t,T,z,b,a⟩))/\Below w.1.size w c:=by
 go_in
 go_wp2
 all_goals
  go_ret;refine⟨Xl ?_,Xb (Below.refl _ _) _⟩
  first|(simp[Wu, *];done)|(simp[Wu, *];omega)
def Uw(w:Ub):Prop:=1 < w.1.size/\∀k:Nat,1<=k->k<=13->∃s,w.cell? ⟨1,k*5,none⟩=some (.string s)/\w.cell? ⟨1,k*5+1,none⟩=some (.bool (dB k))/\w.cell? ⟨1,k*5+2,none⟩=some (.bool (aB k)) /\
 w.cell? ⟨1,k*5+3,none⟩=some (.bool (bB k))/\∃i,w.cell? ⟨1,k*5+4,none⟩=some (.bool i)
def T7(w:Ub):Prop:=2 < w.1.size/\∀k:Nat,1<=k->k<=3->∃s,w.cell? ⟨2,k*4,none⟩=some (.string s)/\w.cell? ⟨2,k*4+1,none⟩=some (.bool ((k:Int) != 1))/\w.cell? ⟨2,k*4+2,none⟩=some (.bool ((k:Int) != 3)) /\
 w.cell? ⟨2,k*4+3,none⟩=some (.bool ((k:Int)==2))
theorem Uw.keep{w':Ub}(h:Uw w)(k:Below w.1.size w w'):Uw w':=by
 refine⟨aX h.1 k.4,λi a b=>?_⟩;have e:=λo=>Xc (o:=o) (k.5 1 h.1);let⟨s,c0,c1,c2,c3,j,c4⟩:=h.2 i a b;exact⟨s,(e _).trans c0,(e _).trans c1,(e _).trans c2,(e _).trans c3,j,(e _).trans c4⟩
theorem T7.keep{w':Ub}(h:T7 w)(k:Below w.1.size w w'):T7 w':=by
 refine⟨aX h.1 k.4,λi a b=>?_⟩;have e:=λo=>Xc (o:=o) (k.5 2 h.1);let⟨s,c0,c1,c2,c3⟩:=h.2 i a b;exact⟨s,(e _).trans c0,(e _).trans c1,(e _).trans c2,(e _).trans c3⟩
theorem AB(a e c d f n b:Int)(z:b<=13)(l:Hs (Uw w)):
 Calls prog 144 #[.agg #[Hp a,Hp e,Hp c,Hp d,Hp f],Hp b,Hp n] w λg v=>g=.returned (.bool (Yw n b ⟨a,e,c,d,f⟩))/\Below w.1.size w v:=by
 by_cases j:1<=a/\a<=b
 .let⟨i,q⟩:=j
  obtain⟨k,rfl⟩:=bX (show 0<=a by omega);have A:=l.1;let⟨C,c0,c1,c2,c3,B,c4⟩:=l.2 k oM oM;have s:Hs (Yw n b ⟨k,e,c,d,f⟩=(Tp (dB k) e 0 n&&Tp (aB k) c 0 n&&Tp (bB k) d 0 n&&Wu ⟨k,e,c,d,f⟩)):=by
   show _=_;unfold Yw;rw[eB i,eB q];simp
  generalize dB (k:Int)=F at*;generalize aB (k:Int)=D at*;generalize bB (k:Int)=E at*;have y:(k:Int)<=13:=oM
  go_in
  go_wp2_with (first|(go_at_call 145;refine(Yp).mono ?_;rintro g p⟨rfl,o⟩;rw[o];clear o p)|(go_at_call 180;refine(AT).mono ?_;rintro g p⟨rfl,t⟩))
  all_goals
   go_ret;refine⟨Xl ?_,?_⟩;·rw[s.o];simp[*]
   first|exact Xg (Xb (Xb (Below.refl _ _) _) _) t|exact Xb (Xb (Below.refl _ _) _) _
 have u:∃r,r=Yw n b ⟨a,e,c,d,f⟩/\r=false:=⟨_,rfl,by
  unfold Yw;by_cases i:1<=a;·rw[dJ (p:=a<=b) oM];simp
  rw[dJ (p:=1<=a) i];simp⟩
 obtain⟨r,m,rfl⟩:=u;rw[<-m];clear m;have h:a<1\/(1<=a/\b<a):=oM;clear j;obtain h|⟨h,x⟩:=h
 all_goals
  go_in
  go_wp2
  all_goals
   go_ret;exact⟨rfl,Xb (Below.refl _ _) _⟩
theorem TI{b a n:Int}(c:Hs (Uw w)):
 Calls prog 144 #[.agg #[Hp t,Hp T,Hp z,Hp b,Hp a],Hp 10,Hp n] w λe d=>e=.returned (.bool (Yw n 10 ⟨t,T,z,b,a⟩))/\Below w.1.size w d :=
 AB t T z b a n 10 vY c
theorem Kn{tg n low a:Int}(b:Hs (T7 w)):
 Calls prog 143 #[.agg #[Hp t,Hp T,Hp tg,Hp z],Hp n,Hp low,Hp a] w λe l=>e=.returned (.bool (Zu n low a ⟨t,T,tg,z⟩))/\Below w.1.size w l:=by
 by_cases h:1<=t/\t<=3
 .let⟨f,g⟩:=h
  obtain⟨k,rfl⟩:=bX (show 0<=t by omega);have p:=b.1;let⟨s,c0,c1,c2,c3⟩:=b.2 k oM oM;have i:Hs (Zu n low a ⟨k,T,tg,z⟩=(Tp ((k:Int) != 1) T 0 n&&Tp ((k:Int) != 3) tg low a&&Tp ((k:Int)==2) z low a)):=by
   show _=_;unfold Zu;rw[eB f,eB g];simp
  generalize ((k:Int) != 1)=q at*;generalize ((k:Int) != 3)=v at*;generalize ((k:Int)==2)=u at*
  go_in
  go_wp2_with (go_at_call 145;refine(Yp).mono ?_;rintro e m⟨rfl,d⟩;rw[d];clear d m)
  all_goals
   go_ret;refine⟨Xl ?_,?_⟩;·rw[i.o];simp[*]
   exact Xb (Xb (Below.refl _ _) _) _
 have j:∃r,r=Zu n low a ⟨t,T,tg,z⟩/\r=false:=⟨_,rfl,ug h⟩;obtain⟨r,c,rfl⟩:=j;rw[<-c];clear c;have o:t<1\/3<t:=oM;clear h
 go_in
 go_wp2
 all_goals
  go_ret;exact⟨rfl,Xb (Below.refl _ _) _⟩
theorem J4(t:Yj)(w:Ub):
 Calls prog 98 #[.agg #[Hp t.1,Hp t.a,Hp t.3,Hp t.4]] w λj f=>∃g c,j=.returned (.slice g t.tg.length c)/\Below w.1.size w f/\Xf f w.1.size f.1.size g t.tg:=by
 let⟨b,l,tg,k⟩:=t;by_cases d:b=1
 .subst d
  go_in
  go_wp2;go_ret;refine⟨_,_,rfl,Xb (Xb (Below.refl _ _) _) _,λi a=>?_⟩;simp[Yj.tg]at a;subst a;exact⟨_,_,rfl,⟨sP,sP⟩,by simp[Yj.tg]⟩
 by_cases e:b=2
 .subst e
  go_in
  go_wp2;go_ret;refine⟨_,_,rfl,Xb (Xb (Below.refl _ _) _) _,λi a=>?_⟩;simp[Yj.tg]at a
  match i,a with
  |0,_=>exact⟨_,_,rfl,⟨sP,sP⟩,by simp[Yj.tg]⟩
  |1,_=>exact⟨_,_,rfl,⟨sP,sP⟩,by simp[Yj.tg]⟩
 have e1:(b==1)=false:=by simp[d]
 have e2:(b==2)=false:=by simp[e]
 have h:(Yj.tg ⟨b,l,tg,k⟩)=[]:=by simp[Yj.tg,d,e]
 rw[h]
 go_in
 go_wp2;go_ret;exact⟨_,_,rfl,Xb (Below.refl _ _) _,λi a=>absurd a sP⟩
def Xh(W:Wk)(x:Nat):Bool:=(W<|x/64).testBit (x%64)
def YH(W:Wk)(x:Nat):Wk:=λi=>if i=x/64 then W i|||2^(x%64)else W i
def XA(W:Wk):Prop:=∀i,W i<18446744073709551616
theorem Z3:Xh (λ_=>0) n=false:=by simp[Xh]
theorem Z8:Xh (YH f n) m=(decide (m=n)||Xh f m):=by
 unfold Xh YH;by_cases h:m/64=n/64
 .rw[aU h,Nat.testBit_or,nE];by_cases e:n%64=m%64
  .have:m=n:=oM;simp[this]
  have:¬m=n:=λa=>e (by rw[a]);simp[this,e]
 rw[aM h];have:¬m=n:=λa=>h (by rw[a]);simp[this]
theorem oV(h:XA f)(x:Nat):XA (YH f x):=λi=>by
 unfold YH;split;·exact Nat.or_lt_two_pow (n:=64) (h i) (lB vY<|dS _ vY)
 exact h i
def NT(S O T:Wk)(i:Nat):Nat:=(O i&&&(18446744073709551615-T i))&&&(18446744073709551615-S i)
def NR(S O T:Wk)(i:Nat):Nat:=S i|||NT S O T i
theorem qA(ha:n<18446744073709551616)(a:m<64):(18446744073709551615-n).testBit m=!n.testBit m:=by
 have:=Nat.testBit_two_pow_sub_succ (n:=64) (x:=n) ha m;rw[show 18446744073709551615-n=2^64-(n+1) by omega,this];simp[a]
theorem WU{O:Wk}(b:XA f)(c:XA F)(i:Nat)(a:n<64):(NT f O F i).testBit n=((O i).testBit n&&!(F i).testBit n&&!(f i).testBit n):=by
 unfold NT;rw[jW,jW,qA (c i) a,qA (b i) a]
theorem WR{S T:Wk}(a:XA f)(i:Nat):NT S f T i<18446744073709551616:=iC (aJ jB jB) (a i)
theorem q8{T:Wk}(b:XA f)(a:XA F):XA (NR f F T):=λi=>Nat.or_lt_two_pow (n:=64) (b i) (WR a i)
theorem vD{T:Wk}(a:XA f)(b:XA T)(x:Nat):Xh (NR f F T) x=(Xh f x||(Xh F x&&!Xh T x)):=by
 unfold Xh NR;rw[Nat.testBit_or,WU a b _<|dS _ vY];cases (f<|x/64).testBit (x%64)<;>simp
theorem CF{T:Wk}(e:XA f)(d:XA F)(g:XA T)(i:Nat)(h:NT f F T i≠0):∃x,x/64=i/\Xh F x=true/\Xh T x=false/\Xh f x=false:=by
 let⟨t,a⟩:=Nat.exists_testBit_of_ne_zero h;have c:t<64:=by
  obtain b|b:=mL t 64;·exact b
  have:=Nat.testBit_lt_two_pow<|aX (WR (S:=f) (T:=T) d i) (Nat.pow_le_pow_right vY b:2^64<=2^t);rw[this]at a;cases a
 rw[WU e g _ c]at a;simp only[bY,lV]at a;refine⟨64*i+t,oM,?_,?_,?_⟩;·unfold Xh;rw[show(64*i+t)/64=i by omega,show(64*i+t)%64=t by omega];exact a.1.1
 .unfold Xh;rw[show(64*i+t)/64=i by omega,show(64*i+t)%64=t by omega];exact a.1.2
 unfold Xh;rw[show(64*i+t)/64=i by omega,show(64*i+t)%64=t by omega];exact a.2
theorem Cn{T:Wk}(c:XA f)(d:XA T)(h:NT f F T (n/64)=0)(a:Xh F n=true)(b:Xh T n=false):Xh f n=true:=by
 have:=WU (O:=F) c d (n/64) (dS n<|show 0<64 by decide);rw[h,Nat.zero_testBit]at this;unfold Xh at*;rw[a,b]at this;cases hs:(f<|n/64).testBit (n%64)with
 |true=>rfl
 |false=>rw[hs]at this;cases this
def Ix(S O T:Wk)(K:Nat):Bool:=(List.range K).any λi=>NT S O T i != 0
theorem AK{T:Wk}:Ix f F T 0=false:=rfl
theorem AL(S O T:Wk)(K:Nat):Ix S O T (K+1)=(Ix S O T K||(NT S O T K != 0)):=by
 unfold Ix;rw[dN,List.any_append];simp
theorem DV{T:Wk}(c:XA f)(b:XA F)(d:XA T)(h:Ix f F T n=true):∃x,x<64*n/\Xh F x=true/\Xh T x=false/\Xh f x=false:=by
 let⟨i,e,g⟩:=List.any_eq_true.1 h;let⟨x,j,a⟩:=CF c b d i (by simpa using g);have:=bE.1 e;exact⟨x,oM,a⟩
theorem Eh{T:Wk}(c:XA f)(d:XA T)(h:Ix f F T n=false)(e:m<64*n)(a:Xh F m=true)(b:Xh T m=false):Xh f m=true:=by
 refine Cn c d ?_ a b;have:=List.any_eq_false.1 h (m/64) (bE.2 oM);simpa using this
def E2(W:Wk)(a:Wa):Wk:=a.foldl YH W
theorem VW{W:Wk}(h:n<s.length):E2 W (s.take<|n+1)=YH (E2 W<|s.take n) s[n]:=by
 unfold E2;rw[bN h,dT];rfl
theorem Zs:∀(a:Wa){W:Wk},XA W->XA (E2 W a)
 |[],_,h=>h
 |t::a,_,h=>Zs a<|oV h t
theorem YR:∀(a:Wa)(W:Wk)(y:Nat),Xh (E2 W a) y=(decide (y∈a)||Xh W y)
 |[],W,y=>by simp[E2]
 |t::a,W,y=>by
  show Xh (E2 (YH W t) a) y=_;rw[YR a,Z8];by_cases b:y=t;·simp[b]
  by_cases c:y∈a<;>simp[b,c]
theorem AM{b:Bool}(h:r=b):Ending.returned (.bool r)=Ending.returned (.bool b):=by rw[h]
theorem rh(x:Nat):(x:Int).tdiv 64=((x/64:Nat):Int):=by rw[fY oM];omega
theorem rg(x:Nat):(x:Int).tmod 64=((x%64:Nat):Int):=by rw[eW oM];omega
theorem ux(b:n<18446744073709551616):(bits .and .u64 ((n:Int)/2^m) 1==1)=n.testBit m:=by
 have hq:n/2^m<18446744073709551616:=iC (Nat.div_le_self _ _) b;have e:((n:Int)/2^m)=((n/2^m:Nat):Int):=sP;rw[e,show(1:Int)=((1:Nat):Int)from rfl,jH _ _ hq vY,Nat.and_one_is_mod,Nat.testBit_eq_decide_div_mod_eq];by_cases h:n/2^m%2=1;·simp[h]
 have a:n/2^m%2=0:=oM;simp[a]
theorem tZ(c:m<64)(b:n<18446744073709551616):bits .or .u64 (n:Int) (IntKind.u64.wrap<|2^m)=((n|||2^m:Nat):Int):=by
 have a:2^m<18446744073709551616:=aX (lB vY c) vY;have e:IntKind.u64.wrap (2^m)=((2^m:Nat):Int):=by
  rw[iV];have:((2^m:Nat):Int)=(2:Int)^m:=sP;rw[<-this];exact mB (kF _) (Int.ofNat_lt.2 a)
 rw[e,u64_or_nat _ _ b a]
def C9(tg:Nat->List Nat):Nat->Nat->(Nat->Nat)×List Nat->(Nat->Nat)×List Nat
 |0,_,s=>s
 |m+1,b,s=>if Xh s.1 b=true then s else
  (((tg b).foldl (λs t=>C9 tg m t s) (YH s.1 b,s.2)).1,((tg b).foldl (λs t=>C9 tg m t s) (YH s.1 b,s.2)).2++[b])
def X8(a:List Xe)(b:Nat):List Nat:=match a[b]? with
 |some x=>x.3.tg.map Int.toNat
 |none=>[]
theorem Km(h:n<x.length):X8 x n=x[n].3.tg.map Int.toNat:=by
 unfold X8;rw[aC h]
def XB(W:Wk)(n:Nat):Nat:=((List.range n).filter λx=>!Xh W x).length
theorem JY(n:Nat)(h:∀x,Xh f x=true->Xh F x=true):XB F n<=XB f n:=by
 unfold XB;rw[<-gK,<-gK];refine List.countP_mono_left λx _ a=>?_;cases h1:Xh f x with
 |false=>rfl
 |true=>rw[h x h1]at a;cases a
theorem T8(h:XB f n=0)(a:m<n):Xh f m=true:=by
 unfold XB at h;have:=mJ.1 (List.length_eq_zero_iff.1 h) m (bE.2 a);simpa using this
theorem Tb{W:Wk}(d:m<n)(f:Xh W m=false):XB (YH W m) n+1<=XB W n:=by
 have h:∀n,XB (YH W m) n+(if m<n then 1 else 0)<=XB W n:=λn=>by
  induction n with
  |zero=>simp[XB]
  |succ n a=>
   unfold XB at*;rw[dN,eU,eU,aQ,aQ];by_cases e:n=m
   .subst e;rw[aM oM]at a;rw[aU oM];have c:([n].filter λx=>!Xh (YH W n) x).length=0:=by simp[Z8]
    have i:([n].filter λx=>!Xh W x).length=1:=by simp[f]
    omega
   have c:([n].filter λx=>!Xh (YH W m) x).length=([n].filter λx=>!Xh W x).length:=by
    congr 1;refine lW λx g=>?_;have:x=n:=by simpa using g
    subst this;rw[Z8,dJ e,jV]
   by_cases b:m<n;·rw[aU b]at a;rw[aU oM];omega
   rw[aM b]at a;rw[aM oM];omega
 have:=h n;rw[aU d]at this;exact this
theorem KB(tg:Yr):∀(m b:Nat)(s:Wk×Wa)(x:Nat),Xh s.1 x=true->Xh (C9 tg m b s).1 x=true
 |0,_,_,_,h=>h
 |m+1,b,s,x,h=>by
  rw[C9];split;·exact h
  have c:∀(l:Wa)(s:Wk×Wa),Xh s.1 x=true->Xh (l.foldl (λs t=>C9 tg m t s) s).1 x=true:=λl=>by
   induction l with
   |nil=>intro s h;exact h
   |cons t l a=>intro s h;exact a _<|KB tg m t s x h
  exact c _ _<|by rw[Z8,h];simp
theorem oW(tg:Yr):∀(m b:Nat)(s:Wk×Wa),XA s.1->XA (C9 tg m b s).1
 |0,_,_,h=>h
 |m+1,b,s,h=>by
  rw[C9];split;·exact h
  have c:∀(l:Wa)(s:Wk×Wa),XA s.1->XA (l.foldl (λs t=>C9 tg m t s) s).1:=λl=>by
   induction l with
   |nil=>intro s h;exact h
   |cons t l a=>intro s h;exact a _<|oW tg m t s h
  exact c _ _<|oV h b
theorem Ue(tg:Yr)(m:Nat)(l:Wa)(s:Wk×Wa)(x:Nat)(h:Xh s.1 x=true):Xh (l.foldl (λs t=>C9 tg m t s) s).1 x=true:=by
 induction l generalizing s with
 |nil=>exact h
 |cons t l a=>exact a _<|KB tg m t s x h
theorem Ei(tg:Yr)(m:Nat)(l:Wa)(s:Wk×Wa)(h:XA s.1):XA (l.foldl (λs t=>C9 tg m t s) s).1:=by
 induction l generalizing s with
 |nil=>exact h
 |cons t l a=>exact a _<|oW tg m t s h
theorem qE(tg:Yr){n:Nat}(a:∀b,b<n->∀t∈tg b,t<n):∀(m b:Nat)(s:Wk×Wa),b<n->(C9 tg m b s).2.length+XB (C9 tg m b s).1 n<=s.2.length+XB s.1 n
 |0,_,_,_=>aA
 |m+1,b,s,hb=>by
  rw[C9];split;·exact aA
  rename_i d;have e:Xh s.1 b=false:=by simpa using d
  have j:=Tb hb e;have i:∀(l:Wa)(s:Wk×Wa),(∀t∈l,t<n)->(l.foldl (λs t=>C9 tg m t s) s).2.length+XB (l.foldl (λs t=>C9 tg m t s) s).1 n<=s.2.length+XB s.1 n:=λl=>by
   induction l with
   |nil=>intro s _;exact aA
   |cons t l g=>
    intro s h;exact aJ (g _ λx f=>h x<|cN _ f) (qE tg a m t s<|h t cI)
  have c:=i (tg b) (YH s.1 b,s.2) (a b hb);rw[aQ];dsimp only at c |-;simp only[bA,bO];omega
theorem DF(tg:Yr)(c:∀b,b<n->∀t∈tg b,t<n)(m:Nat)(a:Wk×Wa)(h:∀t∈s,t<n):(s.foldl (λa t=>C9 tg m t a) a).2.length+XB (s.foldl (λa t=>C9 tg m t a) a).1 n<=a.2.length+XB a.1 n:=by
 induction s generalizing a with
 |nil=>exact aA
 |cons t s e=>exact aJ (e _ λx d=>h x<|cN _ d) (qE tg c m t a<|h t cI)
theorem nY{tg:Yr}{s:Wk×Wa}(h:Xh s.1 n=false):C9 tg (m+1) n s=(((tg n).foldl (λs t=>C9 tg m t s) (YH s.1 n,s.2)).1,((tg n).foldl (λs t=>C9 tg m t s) (YH s.1 n,s.2)).2++[n]):=by
 rw[C9,aM<|by rw[h];decide]
theorem Vd{tg:Yr}{s:Wk×Wa}(h:Xh s.1 m=true):C9 tg n m s=s:=by
 cases n with
 |zero=>rfl
 |succ n=>rw[C9,aU h]
inductive Sp (I:Nat->Nat->Nat) (T:Nat->Nat->Nat) (ord:Nat->Prop) (src:Nat->List Nat):Nat->Nat->Prop
 |init {b x:Nat}:Xh (I b) x=true->Sp I T ord src b x
 |take {b s x:Nat}:ord b->s∈src b->Sp I T ord src s x->Xh (T b) x=false->Sp I T ord src b x
def ZB(T:Vp)(b s:Nat)(W:Vp):Vp:=λi=>if i=b then NR (W b) (W s) (T b)else W i
def E5(T:Vp)(K b:Nat)(l:Wa)(s:Vp×Bool):Vp×Bool :=
 l.foldl (λs t=>(ZB T b t s.1,Ix (s.1 b) (s.1 t) (T b) K||s.2)) s
theorem Ay{T:Vp}{K b:Nat}(h:n<s.length)(a:Vp×Bool):E5 T K b (s.take<|n+1) a=(ZB T b s[n] (E5 T K b (s.take n) a).1,Ix ((E5 T K b (s.take n) a).1 b) ((E5 T K b (s.take n) a).1 s[n]) (T b) K||(E5 T K b (s.take n) a).2):=by
 unfold E5;rw[bN h,dT];rfl
def XQ(W:Vp):Prop:=∀i,XA<|W i
theorem Uc(b s:Nat)(h:XQ N):XQ (ZB M b s N):=λi=>by
 unfold ZB;split;·exact q8 (h b) (h s)
 exact h i
theorem Ts(b s:Nat)(h:XQ N)(a:XQ M)(i x:Nat):Xh (ZB M b s N i) x=(Xh (N i) x||(decide (i=b)&&Xh (N s) x&&!Xh (M b) x)):=by
 unfold ZB;by_cases e:i=b
 .subst e;rw[aU rfl,vD (h i) (a i)];simp
 rw[aM e];simp[e]
theorem TG{T:Vp}{K b:Nat}:∀(l:Wa)(s:Vp×Bool),XQ s.1->XQ (E5 T K b l s).1
 |[],_,h=>h
 |t::l,_,h=>TG l _<|Uc b t h
theorem JJ{T:Vp}{K b:Nat}(a:XQ T):∀(l:Wa)(s:Vp×Bool),XQ s.1->∀i x,Xh (s.1 i) x=true->Xh ((E5 T K b l s).1 i) x=true
 |[],_,_,_,_,h=>h
 |t::l,s,hs,i,x,h=>JJ a l _ (Uc b t hs) i x (by show Xh (ZB T b t s.1 i) x=true;rw[Ts b t hs a,h];rfl)
theorem T9{I T:Vp}{K b:Nat}{ord:Vv}{src:Yr}(c:XQ T)(d:ord b):∀(l:Wa)(s:Vp×Bool),XQ s.1->(∀t∈l,t∈src b)->(∀i x,Xh (s.1 i) x=true->Sp I T ord src i x)->∀i x,Xh ((E5 T K b l s).1 i) x=true->Sp I T ord src i x
 |[],_,_,_,h=>h
 |t::l,s,hs,hl,h=>T9 c d l _ (Uc b t hs) (λu g=>hl u<|cN _ g) (λi x j=>by
  have a:Xh (ZB T b t s.1 i) x=true:=j;rw[Ts b t hs c]at a;cases hi:Xh (s.1 i) x with
  |true=>exact h i x hi
  |false=>
   rw[hi]at a;simp only[jV,bY,bD,lV]at a;obtain⟨⟨rfl,e⟩,f⟩:=a;exact Sp.take d (hl t cI) (h t x e) f)
theorem WW{T:Vp}{K b:Nat}:∀(l:Wa)(s:Vp×Bool),s.2=true->(E5 T K b l s).2=true
 |[],_,h=>h
 |t::l,s,h=>WW l _<|by show(_||s.2)=true;rw[h];simp
theorem T6{T:Vp}{K b:Nat}(f:XQ T):∀(l:Wa)(s:Vp×Bool),XQ s.1->(E5 T K b l s).2=false->(∀i x,x<64*K->Xh ((E5 T K b l s).1 i) x=Xh (s.1 i) x)/\∀t∈l,∀x,x<64*K->Xh (s.1 t) x=true->Xh (T b) x=false->Xh (s.1 b) x=true
 |[],_,_,_=>⟨λ_ _ _=>rfl,λt p=>by cases p⟩
 |t::l,s,hs,hq=>by
  have k:(Ix (s.1 b) (s.1 t) (T b) K||s.2)=false:=by
   cases e:(Ix (s.1 b) (s.1 t) (T b) K||s.2)with
   |false=>rfl
   |true=>have:=WW (T:=T) (K:=K) (b:=b) l (ZB T b t s.1,Ix (s.1 b) (s.1 t) (T b) K||s.2) e;rw[show E5 T K b (t::l) s=E5 T K b l (ZB T b t s.1,Ix (s.1 b) (s.1 t) (T b) K||s.2)from rfl,this]at hq;cases hq
  have o:Ix (s.1 b) (s.1 t) (T b) K=false:=by
   cases e:Ix (s.1 b) (s.1 t) (T b) K with
   |false=>rfl
   |true=>rw[e]at k;cases k
  have j:∀x,x<64*K->Xh (s.1 t) x=true->Xh (T b) x=false->Xh (s.1 b) x=true:=λx a c d=>Eh (hs b) (f b) o a c d
  have g:∀i x,x<64*K->Xh (ZB T b t s.1 i) x=Xh (s.1 i) x:=λi x a=>by
   rw[Ts b t hs f];by_cases e:i=b
   .subst e;cases c:Xh (s.1 t) x with
    |false=>simp
    |true=>
     cases d:Xh (T i) x with
     |true=>simp
     |false=>rw[j x a c d];rfl
   simp[e]
  let⟨c,d⟩:=T6 f l (ZB T b t s.1,Ix (s.1 b) (s.1 t) (T b) K||s.2) (Uc b t hs) hq;refine⟨λi x a=>(c i x a).trans (g i x a),λu h x a n m=>?_⟩;obtain rfl|h:=cH.1 h;·exact j x a n m
  have:=d u h x a (by rw[g u x a];exact n) m;rw[g b x a]at this;exact this
theorem UB{T:Vp}{K b:Nat}(a:XQ T):∀(l:Wa)(s:Vp×Bool),XQ s.1->s.2=false->(E5 T K b l s).2=true->XB ((E5 T K b l s).1 b) (64*K)<XB (s.1 b) (64*K)
 |[],s,_,h0,h1=>by rw[show E5 T K b [] s=s from rfl,h0]at h1;cases h1
 |t::l,s,hs,h0,h1=>by
  cases hg:Ix (s.1 b) (s.1 t) (T b) K with
  |false=>
   have f:E5 T K b (t::l) s=E5 T K b l (ZB T b t s.1,false):=by show E5 T K b l (ZB T b t s.1,Ix (s.1 b) (s.1 t) (T b) K||s.2)=_;rw[hg,h0];rfl
   rw[f]at h1 |-;refine aX (UB a l (ZB T b t s.1,false) (Uc b t hs) rfl h1) ?_;exact JY _ λx e=>by show Xh (ZB T b t s.1 b) x=true;rw[Ts b t hs a,e];rfl
  |true=>
   let⟨x,e,g,h,i⟩:=DV (hs b) (hs t) (a b) hg;have m:∀c:Wk,(∀y,Xh (s.1 b) y=true->Xh c y=true)->Xh c x=true->XB c (64*K)<XB (s.1 b) (64*K):=λc j k=>by
    have n:=Tb e i;have o:XB c (64*K)<=XB (YH (s.1 b) x) (64*K):=JY _ (λy d=>by
     rw[Z8]at d;cases hyx:decide (y=x)with
     |true=>rw[fV hyx];exact k
     |false=>rw[hyx,jV]at d;exact j y d)
    omega
   refine m _ (λy d=>JJ a (t::l) s hs b y d) ?_;refine JJ a l (ZB T b t s.1,Ix (s.1 b) (s.1 t) (T b) K||s.2) (Uc b t hs) b x ?_;show Xh (ZB T b t s.1 b) x=true;rw[Ts b t hs a,g,h];simp
theorem TN{T:Vp}{K b i:Nat}(h:i≠b):∀(l:Wa)(s:Vp×Bool),(E5 T K b l s).1 i=s.1 i
 |[],_=>rfl
 |t::l,s=>(TN h l _).trans (by show ZB T b t s.1 i=_;unfold ZB;rw[aM h])
theorem We{W:Vp}(c:∀m k,Xh (M m) k=true->Xh (W m) k=true)(e:∀m k,Xh (W m) k=true->Sp M N d D m k)(b:∀m,d m->∀t∈D m,∀k,k<64*n->Xh (W t) k=true->Xh (N m) k=false->Xh (W m) k=true)(a:k<64*n):Xh (W m) k=true↔Sp M N d D m k:=by
 refine⟨e m k,λh=>?_⟩
 induction h with
 |init h=>exact c _ _ h
 |take f g _ i j=>exact b _ f _ g _ a (j a) i
theorem Vl(h:∀x,x<n->Xh F x=Xh f x):XB F n=XB f n:=by
 unfold XB;congr 1;exact lW λx a=>by rw[h x<|bE.1 a]
def JI(W:Nat->Nat->Nat)(K:Nat):Nat->Nat
 |0=>0
 |n+1=>JI W K n+XB (W n) (64*K)
theorem Vo{W a:Vp}{K:Nat}:∀n,(∀i,i<n->XB (a i) (64*K)=XB (W i) (64*K))->JI a K n=JI W K n
 |0,_=>rfl
 |n+1,h=>by rw[JI,JI,Vo n λi b=>h i oM,h n oM]
theorem tx{W a:Vp}{K b:Nat}(c:∀i,i≠b->a i=W i)(d:XB (a b) (64*K)<XB (W b) (64*K)):∀n,b<n->JI a K n<JI W K n
 |0,h=>absurd h oM
 |n+1,h=>by
  rw[JI,JI];by_cases e:n=b
  .subst e;rw[Vo n λi f=>by rw[c i oM]];omega
  rw[c n e];have:=tx c d n oM;omega
def PN(T:Vp)(K:Nat)(a:Yr)(W:Vp)(b:Nat):Prop:=∀t∈a b,∀x,x<64*K->Xh (W t) x=true->Xh (T b) x=false->Xh (W b) x=true
theorem Eg{a:Vp}(h:PN M n D N m)(e:∀i x,x<64*n->Xh (a i) x=Xh (N i) x):PN M n D a m:=λt f x c b d=>by
 rw[e _ _ c]at b |-;exact h t f x c b d
def Ov(T:Vp)(K:Nat)(a:Yr)(W:Vp)(R:Wa)(q p:Nat):Prop:=∀j,j<q->PN T K a W (R.getD ((p+R.length-1-j)%R.length) 0)
theorem Vz:Ov M n D N s 0 m:=λj a=>absurd a oM
theorem Br{a:Vp}(h:Ov M n D N s m k)(e:∀i x,x<64*n->Xh (a i) x=Xh (N i) x)(b:k<s.length)(c:PN M n D N s[k]):Ov M n D a s (m+1) (k+1):=λj d=>by
 refine Eg ?_ e;cases j with
 |zero=>
  have:(k+1+s.length-1-0)%s.length=k:=by
   rw[show k+1+s.length-1-0=k+s.length by omega,kH,jM b]
  rw[this,show s.getD k 0=s[k] by simp[b]];exact c
 |succ j=>
  rw[show k+1+s.length-1-(j+1)=k+s.length-1-j by omega];exact h j oM
theorem Bj(h:Ov M n D N s m s.length)(hq:m<s.length):Ov M n D N s m 0:=λj a=>by
 have:=h j a;rw[show s.length+s.length-1-j=(0+s.length-1-j)+s.length by omega,kH]at this;exact this
theorem B6(h:Ov M n D N s s.length m)(e:m<=s.length)(b:k∈s):PN M n D N k:=by
 obtain⟨i,a,rfl⟩:=bR b;have d:(m+s.length-1-(m+s.length-1-i)%s.length)%s.length=i:=by
  by_cases c:i+1<=m
  .have e1:(m+s.length-1-i)%s.length=m-1-i:=by
    rw[show m+s.length-1-i=(m-1-i)+s.length by omega,kH,jM oM]
   rw[e1,show m+s.length-1-(m-1-i)=i+s.length by omega,kH,jM a]
  have e1:(m+s.length-1-i)%s.length=m+s.length-1-i:=jM oM;rw[e1,show m+s.length-1-(m+s.length-1-i)=i by omega,jM a]
 have:=h ((m+s.length-1-i)%s.length) (dS _ oM);rw[d,show s.getD i 0=s[i] by simp[a]]at this;exact this
section
inductive Av (tg:Nat->List Nat) (a:Nat):Nat->Prop
 |root:a≠0->Av tg a 0
 |step {b t:Nat}:Av tg a b->t∈tg b->t≠a->Av tg a t
inductive Re (tg:Nat->List Nat):Nat->Prop
 |root:Re tg 0
 |step {b t:Nat}:Re tg b->t∈tg b->Re tg t
structure JO(tg:Yr)(a b:Nat):Prop where
 ra:Re tg a
 rb:Re tg b
 no:¬Av tg a b
variable {tg: Nat -> Wa}
theorem rp{a b:Nat}(h:Av tg a b):Re tg b:=by
 induction h with
 |root=>exact Re.root
 |step _ c _ d=>exact Re.step d c
theorem wX{a b:Nat}(h:Av tg a b):b≠a:=by
 cases h with
 |root h=>exact λe=>h e.symm
 |step _ _ h=>exact h
theorem Zd{b:Nat}(h:Re tg b):JO tg b b:=⟨h,h,λe=>wX e rfl⟩
theorem CW{b:Nat}(h:Re tg b):JO tg 0 b:=⟨Re.root,h,λe=>by
 have:∀{c},Av tg 0 c->False:=λa=>by
  induction a with
  |root h=>exact h rfl
  |step _ _ _ d=>exact d
 exact this e⟩
theorem Fq{x a d:Nat}(i:Av tg x d)(g:¬Av tg a d):Av tg x a:=by
 induction i with
 |root b=>
  have:a=0:=dQ λe=>g<|Av.root e;rw[this];exact Av.root b
 |@step c t j h b k=>
  by_cases f:Av tg a c
  .have:t=a:=dQ λe=>g<|Av.step f h e;rw[<-this];exact Av.step j h b
  exact k f
theorem J8{a b c:Nat}(h:JO tg a b)(k:JO tg b c):JO tg a c:=⟨h.1,k.2,λe=>h.3<|Fq e k.3⟩
theorem Dr{a b:Nat}(f:a≠b){c:Nat}(h:Re tg c):(Av tg a c/\Av tg b c)\/Av tg b a\/Av tg a b:=by
 induction h with
 |root=>
  by_cases ha:a=0;·subst ha;exact aZ<|bC (Av.root λe=>f e.symm)
  by_cases j:b=0;·subst j;exact aZ<|aZ (Av.root ha)
  exact bC ⟨Av.root ha,Av.root j⟩
 |@step c t _ d k=>
  obtain⟨h1,h2⟩|h|h:=k
  .by_cases g:t=a;·subst g;exact aZ<|bC (Av.step h2 d f)
   by_cases i:t=b;·subst i;exact aZ<|aZ (Av.step h1 d λe=>f e.symm)
   exact bC ⟨Av.step h1 d g,Av.step h2 d i⟩
  .exact aZ<|bC h
  exact aZ<|aZ h
theorem Z1{a b:Nat}(h:JO tg a b)(k:JO tg b a):a=b:=dQ (λe=>by
 obtain⟨_,h2⟩|h2|h2:=Dr e h.2;·exact wX h2 rfl
 .exact k.3 h2
 exact h.3 h2)
inductive Sf (tg:Nat->List Nat) (a b x:Nat):Nat->Prop
 |here:Sf tg a b x x
 |step {c t:Nat}:Sf tg a b x c->t∈tg c->t≠a->t≠b->Sf tg a b x t
theorem vp{a b c:Nat}(h:Re tg c):(Av tg a c/\Av tg b c)\/Sf tg a b a c\/Sf tg a b b c:=by
 induction h with
 |root=>
  by_cases ha:a=0;·subst ha;exact aZ<|bC Sf.here
  by_cases g:b=0;·subst g;exact aZ<|aZ Sf.here
  exact bC ⟨Av.root ha,Av.root g⟩
 |@step c t _ f i=>
  by_cases d:t=a;·subst d;exact aZ<|bC Sf.here
  by_cases e:t=b;·subst e;exact aZ<|aZ Sf.here
  obtain⟨h1,h2⟩|h|h:=i;·exact bC ⟨Av.step h1 f d,Av.step h2 f e⟩
  .exact aZ<|bC (Sf.step h f d e)
  exact aZ<|aZ (Sf.step h f d e)
theorem rm{a b x c y:Nat}(h:Sf tg a b x c)(i:y=a\/y=b)(g:Av tg y x):Av tg y c:=by
 induction h with
 |here=>exact g
 |step _ f d e j=>exact Av.step j f (by obtain rfl|rfl:=i;exact d;exact e)
theorem TY{a b c:Nat}(h:JO tg a c)(k:JO tg b c):JO tg a b\/JO tg b a:=by
 obtain⟨h1,_⟩|h1|h1:=vp (a:=a) (b:=b) h.2;·exact absurd h1 h.3
 .exact aZ ⟨k.1,h.1,λe=>k.3<|rm h1 (aZ rfl) e⟩
 exact bC ⟨h.1,k.1,λe=>h.3<|rm h1 (bC rfl) e⟩
theorem Gf{n:Nat}{I T:Vp}{q:Vv}{r:Yr}(j:∀b x,x<n->(Xh (I b) x=true↔b=0/\x≠0))(k:∀b x,x<n->b<n->(Xh (T b) x=true↔x=b))(o:∀b,q b↔Re tg b)(d:∀b,Re tg b->b<n)(p:∀b s,b<n->(s∈r b↔s<n/\b∈tg s)){b x:Nat}(c:x<n):Sp I T q r b x↔Av tg x b:=by
 constructor
 .intro h
  induction h with
  |init h=>
   obtain⟨rfl,u⟩:=(j _ _ c).1 h;exact Av.root u
  |@take b s x f w _ a i=>
   have l:=d b<|(o b).1 f;refine Av.step (i c) ((p b s l).1 w).2 λe=>?_;have:=(k b x c l).2 e.symm;rw[this]at a;cases a
 intro h
 induction h with
 |root h=>exact Sp.init<|(j 0 x c).2 ⟨rfl,h⟩
 |@step b t f a v i=>
  have m:=rp f;have g:=Re.step m a;refine Sp.take ((o t).2 g) ((p t b<|d t g).2 ⟨d b m,a⟩) i ?_;cases e:Xh (T t) x with
  |false=>rfl
  |true=>exact absurd ((k t x c<|d t g).1 e) λe=>v e.symm
end
section
variable {tg: Nat -> Wa}
def Oh(l:Wa)(x c:Nat):Prop:=∃a b,l=a++b/\x∈a/\c∈b
theorem EF{l r:Wa}{x a:Nat}(h:Oh l x a):Oh (l++r) x a:=by
 obtain⟨d,e,rfl,b,c⟩:=h;exact⟨d,e++r,sP,b,by simp[c]⟩
theorem DW{l:Wa}{x b:Nat}(h:x∈l):Oh (l++[b]) x b:=⟨l,[b],rfl,h,sP⟩
def PZ(tg:Yr)(P:Wa)(b:Nat):Prop:=∀a,JO tg a b->a≠b->a∈P
theorem DI:PZ tg [] 0:=λ_ h a=>absurd (Av.root a) h.3
theorem Eb{P:Wa}{b t:Nat}(h:PZ tg P b)(c:Re tg b)(f:t∈tg b):PZ tg (b::P) t:=λa ha d=>by
 by_cases e:a=b;·rw[e];exact cI
 exact cN _<|h a ⟨ha.1,c,λk=>ha.3<|Av.step k f λe2=>d e2.symm⟩ e
structure jk(tg:Yr)(P:Wa)(s:Wk×Wa):Prop where
 seen:∀x∈s.2,Xh s.1 x=true
 nd:s.2.Nodup
 all:∀x,Xh s.1 x=true->x∈s.2\/x∈P
 stk:∀x∈P,x∉s.2/\Xh s.1 x=true
 ord:∀x∈s.2,∀a,JO tg a x->a≠x->a∈P\/Oh s.2 x a
 re:∀x∈s.2,Re tg x
 cl:∀x∈s.2,∀t∈tg x,Xh s.1 t=true
theorem Cq{P:Wa}{s:Wk×Wa}{c:Nat}(h:jk tg P s)(d:Xh s.1 c=false):jk tg (c::P) (YH s.1 c,s.2):=by
 have mono:∀x,Xh s.1 x=true->Xh (YH s.1 c) x=true:=λx a=>by rw[Z8,a];simp
 refine⟨λx a=>mono x<|h.1 x a,h.2,λx a=>?_,λx a=>?_,λx a f ha g=>?_,h.6,λx a t i=>mono t<|h.7 x a t i⟩
 .rw[Z8]at a;by_cases e:x=c;·exact aZ<|by rw[e];exact cI
  rw[dJ e,jV]at a;obtain b|b:=h.3 x a;·exact bC b
  exact aZ<|cN _ b
 .rcases cH.1 a with rfl|a;·exact⟨λk=>(by rw[h.1 _ k]at d;cases d),by rw[Z8];simp⟩
  exact⟨(h.4 x a).1,mono x (h.4 x a).2⟩
 obtain b|b:=h.5 x a f ha g;·exact bC<|cN _ b
 exact aZ b
theorem DU{P:Wa}{s:Wk×Wa}{c:Nat}(h:jk tg (c::P) s)(m:c∉P)(o:Re tg c)(p:PZ tg P c)(n:∀t∈tg c,Xh s.1 t=true):jk tg P (s.1,s.2++[c]):=by
 have g:=h.4 c cI;refine⟨λx b=>?_,?_,λx b=>?_,λx b=>?_,λx b f ha i=>?_,λx b=>?_,λx b t e=>?_⟩
 .rcases bU.1 b with a|a;·exact h.1 x a
  have:x=c:=by simpa using a
  rw[this];exact g.2
 .rw[gW];refine⟨h.2,sP,λx b y q l=>?_⟩;have:y=c:=by simpa using q
  rw[l,this]at b;exact g.1 b
 .rcases h.3 x b with a|a;·exact bC<|dD _ a
  obtain rfl|a:=cH.1 a;·exact bC sP
  exact aZ a
 .have j:=h.4 x<|cN _ b;refine⟨λk=>?_,j.2⟩;obtain k|k:=bU.1 k;·exact j.1 k
  have:x=c:=by simpa using k
  rw[this]at b;exact m b
 .rcases bU.1 b with a|a
  .rcases h.5 x a f ha i with d|d
   .rcases cH.1 d with rfl|d;·exact aZ<|DW a
    exact bC d
   exact aZ<|EF d
  have:x=c:=by simpa using a
  subst this;exact bC<|p f ha i
 .rcases bU.1 b with a|a;·exact h.6 x a
  have:x=c:=by simpa using a
  rw[this];exact o
 obtain a|a:=bU.1 b;·exact h.7 x a t e
 have:x=c:=by simpa using a
 rw[this]at e;exact n t e
theorem uM{n:Nat}(h:∀b,b<n->∀t∈tg b,t<n):∀(m b:Nat)(s:Wk×Wa)(P:Wa),b<n->XB s.1 n<=m->Re tg b->PZ tg P b->jk tg P s->jk tg P (C9 tg m b s)/\Xh (C9 tg m b s).1 b=true
 |0,b,s,P,hb,a,_,_,hi=>⟨hi,T8 (n:=n) (Nat.le_zero.1 a) hb⟩
 |m+1,b,s,P,hb,a,hr,hs,hi=>by
  cases hh:Xh s.1 b with
  |true=>rw[Vd hh];exact⟨hi,hh⟩
  |false=>
   rw[nY hh];have j:b∉P:=λp=>by rw[(hi.4 b p).2]at hh;cases hh
   have w:=Tb hb hh;have v:∀(l:Wa)(s1:Wk×Wa),(∀t∈l,t∈tg b)->XB s1.1 n<=m->jk tg (b::P) s1->jk tg (b::P) (l.foldl (λs t=>C9 tg m t s) s1)/\∀t∈l,Xh (l.foldl (λs t=>C9 tg m t s) s1).1 t=true:=λl=>by
    induction l with
    |nil=>intro s1 _ _ d;exact⟨d,λt c=>by cases c⟩
    |cons t l o=>
     intro s1 g d i;have c:=g t cI;let⟨e,f⟩:=uM h m t s1 (b::P) (h b hb t c) d (Re.step hr c) (Eb hs hr c) i;let⟨q,r⟩:=o (C9 tg m t s1) (λu a=>g u<|cN _ a) (aJ (JY n λx k=>KB tg m t s1 x k) d) e;refine⟨q,λu a=>?_⟩;obtain rfl|a:=cH.1 a;·exact Ue tg m l _ _ f
     exact r u a
   let⟨e,f⟩:=v (tg b) (YH s.1 b,s.2) (λt c=>c) (by show XB (YH s.1 b) n<=m;omega) (Cq hi hh);refine⟨DU e j hr hs f,?_⟩;exact Ue tg m (tg b) (YH s.1 b,s.2) b (by show Xh (YH s.1 b) b=true;rw[Z8];simp)
theorem ZA(W:Wk)(n:Nat):XB W n<=n:=aJ (fJ _ _) sP
theorem ER{n:Nat}(l:∀f,f<n->∀t∈tg f,t<n)(g:0<n){m:Nat}(k:n<=m):
 (∀x,x∈(C9 tg m 0 (λ_=>0,[])).2↔Re tg x)/\(∀x,Xh (C9 tg m 0 (λ_=>0,[])).1 x=true↔Re tg x)/\(C9 tg m 0 (λ_=>0,[])).2.Nodup/\∀x c,JO tg c x->c≠x->Oh (C9 tg m 0 (λ_=>0,[])).2 x c:=by
 have j:jk tg [] (λ_=>0,[]):=⟨λx a=>(by cases a),iU,λx a=>(by rw[Z3]at a;cases a),λx a=>(by cases a),λx a=>(by cases a),λx a=>(by cases a),λx a=>(by cases a)⟩;let⟨b,i⟩:=uM l m 0 (λ_=>0,[]) [] g (aJ (ZA _ _) k) Re.root DI j;generalize C9 tg m 0 (λ_=>0,[])=s at*;have d:∀x,Xh s.1 x=true->x∈s.2:=λx a=>by
  obtain h|h:=b.3 x a;·exact h
  cases h
 have e:∀x,Re tg x->Xh s.1 x=true:=λx a=>by
  induction a with
  |root=>exact i
  |step _ p q=>exact b.7 _ (d _ q) _ p
 refine⟨λx=>⟨b.6 x,λh=>d x<|e x h⟩,λx=>⟨λh=>b.6 x<|d x h,e x⟩,b.2,λx c ha o=>?_⟩;obtain h|h:=b.5 x (d x<|e x ha.2) c ha o;·cases h
 exact h
end
section
variable {tg: Nat -> Wa}
structure O6(tg:Yr)(a b:Nat):Prop where
 dom:JO tg a b
 ne:a≠b
 near:∀c,JO tg c b->c≠b->JO tg c a
theorem EU{a b c:Nat}(h:O6 tg a c)(k:O6 tg b c):a=b:=Z1 (k.3 a h.1 h.2) (h.3 b k.1 k.2)
theorem Be{l:Wa}{x a:Nat}(h:Oh l x a):Oh l.reverse a x:=by
 obtain⟨d,e,rfl,b,c⟩:=h;exact⟨e.reverse,d.reverse,sP,by simpa using c,by simpa using b⟩
theorem qk{l:Wa}(d:l.Nodup){i:Nat}(j:i<l.length){x:Nat}(h:Oh l x l[i]):x∈l.take i:=by
 let⟨a,n,e,f,g⟩:=h;have k:a.length<=i:=Nat.le_of_not_lt (λb=>by
  have m:l[i]∈a:=by
   have:l[i]=a[i]:=by
    have c:l[i]?=(a++n)[i]?:=by rw[<-e]
    rw[aC j,dL b,aC b]at c;injection c
   rw[this];exact aH b
  rw[e,gW]at d;exact d.2.2 _ m _ g rfl)
 rw[e,List.take_append];rw[aW k];exact dD _ f
theorem Dg{l:Wa}{p:Ys}{a:Nat}(h:l.reverse.find? p=some a):p a=true/\a∈l/\∀c∈l,p c=true->c=a\/Oh l c a:=by
 rw[List.find?_eq_some_iff_append]at h;let⟨k,f,bs,i,j⟩:=h;have b:l=bs.reverse++[a]++f.reverse:=by
  have:=fI List.reverse i;simpa using this
 refine⟨k,by rw[b];simp,λc g m=>?_⟩;rw[b]at g;obtain d|d:=bU.1 g
 .rcases bU.1 d with e|e;·exact aZ ⟨bs.reverse,[a]++f.reverse,by rw[b,cK],e,sP⟩
  exact bC<|by simpa using e
 have:=j c (by simpa using d);rw[m]at this;cases this
theorem CJ{o:Wa}(d:o.Nodup)(z:∀x,x∈o↔Re tg x)(B:∀x a,JO tg a x->a≠x->Oh o a x){i:Nat}(t:i<o.length){p:Ys}(C:∀a∈o,p a=true↔¬Av tg a o[i]):
 match (o.take i).reverse.find? p with
 |some a=>O6 tg a o[i]
 |none=>∀c,JO tg c o[i]->c=o[i]:=by
 have S:=(z _).1 (aH t);have s:∀a,a∈o->(p a=true↔JO tg a o[i]):=λa ha=>⟨λn=>⟨(z a).1 ha,S,(C a ha).1 n⟩,λn=>(C a ha).2 n.3⟩;have aa:(o.take i).Nodup:=d.sublist<|List.take_sublist _ _;have y:∀c,JO tg c o[i]->c≠o[i]->c∈o.take i:=λc b h=>qk d t<|B o[i] c b h
 have Z:o[i]∉o.take i:=λk=>by
  have e:=(hH i o).symm;have W:o[i]∈o.drop i:=(gZ t)▸cI;rw[e,gW]at d;exact d.2.2 _ k _ W rfl
 cases hf:(o.take i).reverse.find? p with
 |some a=>
  let⟨L,r,M⟩:=Dg hf;have R:=iO r;have l:=(s a R).1 L;have Q:a≠o[i]:=λe=>Z (e▸r);refine⟨l,Q,λc b h=>?_⟩;have f:=y c b h;obtain e|T:=M c f ((s c<|iO f).2 b);·rw[e];exact Zd l.1
  by_cases v:c=a;·rw[v];exact Zd l.1
  obtain k|k:=TY b l;·exact k
  -- a dominates c: then a stands ahead of c
  exfalso;have N:=B c a k λe=>v e.symm;have V:=bR r;let⟨j,X,H⟩:=V;have u:j<o.length:=by rw[dH]at X;omega
  have m:o[j]=a:=by rw[<-H,jG]
  have O:c∈o.take j:=by
   have U:Oh o c o[j]:=by
    rw[m];let⟨l1,l2,e,k1,k2⟩:=T;exact⟨l1,l2++o.drop i,by rw[<-cK,<-e,hH],k1,dD _ k2⟩
   exact qk d u U
  let⟨G,A,I⟩:=bR O;have Y:G<o.length:=by rw[dH]at A;omega
  have J:o[G]=c:=by rw[<-I,jG]
  have P:=qk d Y (J▸N);let⟨q,E,K⟩:=bR P;have D:q<o.length:=by rw[dH]at E;omega
  have w:o[q]=a:=by rw[<-K,jG]
  have ab:q=j:=by
   have F:=gY.1 (show o.Pairwise (·≠·)from d);obtain g|g|g:=mA q j;·exact absurd (w.trans m.symm) (F q j D u g)
   .exact g
   exact absurd (m.trans w.symm) (F j q u D g)
  rw[dH]at A E;omega
 |none=>
  intro c b;refine dQ λh=>?_;have f:=y c b h;have:=lS.1 hf c (by simpa using f);exact this<|(s c<|iO f).2 b
def NI(c:Wk)(d:Nat)(e:Wa):Zm:=e.foldl (λb a=>if a≠d/\(b=none\/∃k,b=some k/\c a > c k)then some a else b) none
theorem Cf{d:Wk}{b:Nat}{e:Wa}(h:∀a∈e,a=b):NI d b e=none:=by
 unfold NI;have i:∀(l:Wa),(∀a∈l,a=b)->l.foldl (λc a=>if a≠b/\(c=none\/∃k,c=some k/\d a > d k)then some a else c) none=none:=λl=>by
  induction l with
  |nil=>intro _;rfl
  |cons a l g=>
   intro h;rw[iM,aM λk=>k.1<|h a cI];exact g λx f=>h x<|cN _ f
 exact i e h
theorem Co{d:Wk}{a i:Nat}{m:Wa}(ha:a∈m)(w:a≠i)(v:∀c∈m,c≠i->c≠a->d c<d a):NI d i m=some a:=by
 unfold NI;have y:∀(l:Wa)(b:Zm),(∀c∈l,c≠i->c≠a->d c<d a)->(b=none\/∃k,b=some k/\(k=a\/d k<d a))->(b=some a\/a∈l)->l.foldl (λb a=>if a≠i/\(b=none\/∃k,b=some k/\d a > d k)then some a else b) b=some a:=λl=>by
  induction l with
  |nil=>
   intro b _ _ h;obtain h|h:=h;·exact h
   cases h
  |cons c l p=>
   intro b t j h;rw[iM];have o:=λz x=>t z<|cN _ x;by_cases q:c=a
   .subst q;by_cases s:b=some c
    .subst s;rw[aM λk=>by obtain k|⟨r,e,f⟩:=k.2;cases k;injection e with e;rw[e]at f;omega];exact p _ o j<|bC rfl
    rw[aU ⟨w,by obtain j|⟨r,e,f⟩:=j;exact bC j;exact aZ ⟨r,e,by obtain f|f:=f;exact absurd (e.trans<|by rw[f]) s;exact f⟩⟩];exact p _ o (aZ ⟨c,rfl,bC rfl⟩) (bC rfl)
   have g:b=some a\/a∈l:=by
    obtain h|h:=h;·exact bC h
    obtain h|h:=cH.1 h;·exact absurd h.symm q
    exact aZ h
   by_cases n:c≠i/\(b=none\/∃k,b=some k/\d c > d k)
   .rw[aU n];have u:=t c cI n.1 q;refine p _ o (aZ ⟨c,rfl,aZ u⟩) ?_;obtain g|g:=g
    .exfalso;obtain k|⟨r,e,f⟩:=n.2;·rw[g]at k;cases k
     rw[g]at e;injection e with e;rw[<-e]at f;omega
    exact aZ g
   rw[aM n];exact p _ o j g
 exact y m none v (bC rfl) (aZ ha)
end
theorem XL(w:Ub)(b:Nat)(h:n≠m)(v:Uj):(w.setCell ⟨b,n,none⟩ v).cell? ⟨b,m,none⟩=w.cell? ⟨b,m,none⟩:=cJ<|by intro e;injection e with _ e2;exact h e2
theorem d6{p:Array Oper}{o:Oper}{d:Act}{K:Tf}{Q:Yt}{E:Prop}(I:o.6=none)(s x:Operand)(t:TypeId)(N:o.2=.call { callee:=.builtin .append,args:=#[s,x],argTypes:=#[t,t] })(h:Nat)(e:TypeId)(i:TypeInfo)(z:Uj)(a bytes:Nat)(V:R.underlying t=some (.slice e))(J:R.info? e=some i)(Y:i.8=some z)(T:i.3=a)(G:i.4=bytes)(Z:z.cells.size=a)(U:0<a)(v:Uj)(n:Nat)(k:Wo)(S:d.eval s=v)(O:w.ownsRow h e a v n k)(j:Addr)(m c:Nat)(f:Wo)(X:d.eval x=.slice (some j) m c)(L:f.length=m*a)(M:∀l u,f[l]?=some u->w.cell? (j.add l)=some u)(r:∀u∈f,u.oneCell'=true)(D:n+m<=maxLen)(H:(n+m)*bytes<=140737488355328)(F:h<=w.1.size)(q:∀b g,g.ownsRow h e a b (n+m) (k++f)->w.grownBy g v.ownBlock->(b=.slice none 0 0↔v=.slice none 0 0/\m=0)->(b.ownBlock=v.ownBlock\/b.ownBlock=some w.1.size)->K (d.put o.1 b) g):
 if Region.wanted o (yielded p d.1)=true then Oper.wp R o d w K Q else E:=by
 have W:Region.wanted o (yielded p d.1)=true:=by simp[Region.wanted,I]
 rw[aU W];let⟨b,g,P,y,A,B,C⟩:=kI (P:=R) w h t o.3 e i z a bytes V J Y T G Z U v n k O j m c f L M r D H F;unfold Oper.wp execOp;simp only[N,resolve,invoke,builtin,lG,lH,jE,jN,eH,fZ,S,X,P];exact q b g y A B C
structure Mv where
 to:Int
 frm:Int
abbrev Wy:=List Mv
def an(L:Wy)(r:Int):Bool:=L.any λm=>m.2==r
theorem yV{L:Wy}:an L t=true↔∃m∈L,m.2=t:=by simp[an]
def bj:List Int->Option Int
 |[]=>none
 |x::xs=>match bj xs with
  |none=>some x
  |some y=>some<|if x<y then x else y
theorem lj:bj l=none↔l=[]:=by
 cases l with
 |nil=>simp[bj]
 |cons x l=>
  simp only[bj];cases bj l<;>simp
theorem mq:∀{b:Wc}{y:Int},bj b=some y->y∈b/\∀x∈b,y<=x
 |[],y,h=>by cases h
 |x::b,y,h=>by
  simp only[bj]at h;cases hl:bj b with
  |none=>
   rw[hl]at h;have e:=lj.1 hl;subst e;cases h;simp
  |some z=>
   rw[hl]at h;let⟨d,c⟩:=mq hl;simp only[Option.some.injEq]at h;split at h
   .subst h
    rename_i f;exact⟨cI,λu a=>by
     obtain rfl|a:=cH.1 a;·exact Int.le_refl _
     have:=c u a;omega⟩
   subst h
   rename_i f;exact⟨cN _ d,λu a=>by
    obtain rfl|a:=cH.1 a;·omega
    exact c u a⟩
theorem pF(a:t∈l)(d:∀x∈l,t<=x):bj l=some t:=by
 cases h:bj l with
 |none=>rw[lj.1 h]at a;cases a
 |some z=>
  let⟨b,c⟩:=mq h;have e:=d z b;have f:=c t a;rw[show z=t by omega]
def ai(L:Wy):Wc:=L.map (·.1)
def fo(L:Wy):Wc:=(ai L).filter λt=>!an L t
def N3(m:Mv):Yg:=if m.2<0 then ⟨13,m.1,0,0,0⟩else ⟨11,m.1,m.2,0,0⟩
def pz(L:Wy)(t:Int):Int:=((L.find? λm=>m.1==t).map (·.2)).getD 0
def ff(L:Wy)(t:Int):Wy:=L.filter λm=>m.1 != t
def scratch(L:Wy)(r:Int):Wy:=L.map λm=>if m.2=r then ⟨m.1,-1⟩else m
def dm(L:List Mv):Yg×List Mv:=match bj (fo L)with
 |some t=>(N3 ⟨t,pz L t⟩,ff L t)
 |none=>match bj (ai L)with
  |some r=>(⟨12,0,r,0,0⟩,scratch L r)
  |none=>(⟨0,0,0,0,0⟩,[])
def ax:Nat->List Mv->List Yg
 |0,_=>[]
 |_+1,[]=>[]
 |k+1,m::L=>(dm (m::L)).1::ax k (dm (m::L)).2
theorem py:ax n []=[]:=by cases n<;>rfl
theorem px(k:Nat){L:Wy}(h:L≠[]):ax (k+1) L=(dm L).1::ax k (dm L).2:=by
 cases L with
 |nil=>exact absurd rfl h
 |cons m L=>rfl
theorem oC:∀(k:Nat)(L:Wy),(ax k L).length<=k
 |0,_=>aA
 |_+1,[]=>aN
 |k+1,m::L=>by have:=oC k (dm (m::L)).2;simp only[ax,bA];omega
structure b9(L:Wy):Prop where
 nd:(ai L).Nodup
 to:∀m∈L,0<=m.1/\m.1<64
 frm:∀m∈L,m.2=-1\/(0<=m.2/\m.2<64)
 ne:∀m∈L,m.2≠m.1
def dg(L:Wy):Nat:=L.length+(L.filter λm=>decide (0<=m.2)).length
theorem b9.nil:b9 []:=⟨by simp[ai],sP,sP,sP⟩
theorem b9.without{L:Wy}(h:b9 L)(t:Int):b9 (ff L t):=by
 refine⟨?_,λm a=>h.2 m (fG.1 a).1,λm a=>h.3 m (fG.1 a).1,λm a=>h.4 m (fG.1 a).1⟩;exact h.1.sublist<|List.filter_sublist.map _
theorem GL{L:Wy}:ai (scratch L t)=ai L:=by
 unfold ai scratch;rw[jO];refine gH λm _=>?_;show(if m.2=t then (⟨m.1,-1⟩:Mv)else m).1=m.1;split<;>rfl
theorem b9.scratch{L:Wy}(h:b9 L)(r:Int):b9 (scratch L r):=by
 have c:∀m∈Go.Proofs.YtcfdhbigppockaaGreatDoor.scratch L r,∃q∈L,m=(if q.2=r then ⟨q.1,-1⟩else q):=λm a=>by
  obtain⟨q,hq,e⟩:=aY.1 a;exact⟨q,hq,e.symm⟩
 refine⟨by rw[GL];exact h.1,λm a=>?_,λm a=>?_,λm a=>?_⟩<;>obtain⟨q,hq,rfl⟩:=c m a;·have:=h.2 q hq;split<;>exact this
 .split;·exact bC rfl
  exact h.3 q hq
 have d:=h.2 q hq;have b:=h.4 q hq;split;·show(-1:Int)≠q.1;omega
 exact b
theorem b9.step{L:Wy}(h:b9 L):b9 (dm L).2:=by
 unfold dm;split;·exact h.without _
 split;·exact h.scratch _
 exact b9.nil
theorem GE{L:Wy}(b:t∈ai L):dg (ff L t)<dg L:=by
 unfold dg ff;have c:(L.filter λm=>m.1 != t).length<L.length:=by
  refine List.length_filter_lt_length_iff_exists.2 ?_;let⟨m,a,e⟩:=aY.1 b;exact⟨m,a,by simp[e]⟩
 have d:((L.filter λm=>m.1 != t).filter λm=>decide (0<=m.2)).length<=(L.filter λm=>decide (0<=m.2)).length:=(List.filter_sublist.filter _).length_le;omega
theorem GD(n:0<=t):∀{L:Wy},an L t=true->dg (scratch L t)<dg L:=by
 have j:∀L:Wy,((scratch L t).filter λm=>decide (0<=m.2)).length<=(L.filter λm=>decide (0<=m.2)).length/\(an L t=true->((scratch L t).filter λm=>decide (0<=m.2)).length<(L.filter λm=>decide (0<=m.2)).length):=λL=>by
  induction L with
  |nil=>simp[scratch,an]
  |cons m L i=>
   let⟨h,d⟩:=i;have e:scratch (m::L) t=(if m.2=t then ⟨m.1,-1⟩else m)::scratch L t:=rfl;have g:an (m::L) t=(m.2==t||an L t):=rfl;rw[e,g];by_cases c:m.2=t
   .rw[aU c];have:(decide (0<=m.2))=true:=by simp;omega
    rw[List.filter_cons_of_neg (p:=λm:Mv=>decide (0<=m.2)) sP,List.filter_cons_of_pos (p:=λm:Mv=>decide (0<=m.2)) this];simp only[bA];exact⟨oM,λ_=>oM⟩
   rw[aM c];have f:(m.2==t)=false:=by simpa using c
   rw[f,jV];by_cases a:decide (0<=m.2)=true
   .rw[List.filter_cons_of_pos (p:=λm:Mv=>decide (0<=m.2)) a,List.filter_cons_of_pos (p:=λm:Mv=>decide (0<=m.2)) a];simp only[bA];exact⟨oM,λb=>by have:=d b;omega⟩
   rw[List.filter_cons_of_neg (p:=λm:Mv=>decide (0<=m.2)) a,List.filter_cons_of_neg (p:=λm:Mv=>decide (0<=m.2)) a];exact⟨h,d⟩
 intro L b;have k:=(j L).2 b;unfold dg;have l:(scratch L t).length=L.length:=by simp[scratch]
 omega
theorem oE{L:Wy}:t∈fo L↔t∈ai L/\an L t=false:=by simp[fo]
theorem xK{L:Wy}(h:b9 L)(e:L≠[]):dg (dm L).2<dg L:=by
 unfold dm;split
 .rename_i t g;exact GE (oE.1 (mq g).1).1
 rename_i c;split
 .rename_i r a
  let⟨b,_⟩:=mq a;have f:an L r=true:=by
   cases hb:an L r with
   |true=>rfl
   |false=>
    have:r∈fo L:=oE.2 ⟨b,hb⟩;rw[lj.1 c]at this;cases this
  let⟨m,d,i⟩:=aY.1 b;exact GD (oN<|(h.2 m d).1) f
 rename_i a;have:=lj.1 a;exact absurd (List.map_eq_nil_iff.1 this) e
theorem pw:∀(k:Nat){L:Wy},b9 L->dg L<=k->ax k L=ax (dg L) L
 |0,L,_,hk=>by rw[show dg L=0 by omega]
 |k+1,L,h,hk=>by
  by_cases a:L=[];·subst a;rw[py,py]
  have d:=xK h a;let⟨j,b⟩:∃j,dg L=j+1:=⟨dg L-1,oM⟩;rw[b,px k a,px j a,pw k h.step oM];by_cases c:dg (dm L).2<=j
  .by_cases f:j<=k
   .have:=pw j h.step c;rw[this]
   have e:j=k:=oM;rw[e,pw k h.step oM]
  omega
theorem If{L:Wy}(h:b9 L)(a:L≠[]):ax (dg L) L=(dm L).1::ax (dg (dm L).2) (dm L).2:=by
 have c:=xK h a;let⟨j,b⟩:∃j,dg L=j+1:=⟨dg L-1,oM⟩;rw[b,px j a,pw j h.step oM]
def ly(a:Wy)(m:Mv):Bool:=decide (0<=m.1/\m.1<64/\0<=m.2/\m.2<64)&&!a.any λq=>q.1==m.1
def gy:List Mv->List Mv->Bool
 |_,[]=>true
 |pre,m::r=>ly pre m&&gy (pre++[m]) r
def bw(L:Wy):Bool:=decide (L.length<=64)&&gy [] L
def bu(L:Wy):Wy:=L.filter λm=>m.1 != m.2
def dp(L:Wy):Vr:=if bw L=true then ax (2*(bu L).length) (bu L)else []
structure iP(L:Wy):Prop where
 nd:(ai L).Nodup
 rng:∀m∈L,0<=m.1/\m.1<64/\0<=m.2/\m.2<64
theorem iP.snoc{L:Wy}(h:iP L){m:Mv}(b:ly L m=true):iP (L++[m]):=by
 simp only[ly,bY,bD,lV]at b;let⟨c,d⟩:=b;refine⟨?_,λq hq=>?_⟩
 .unfold ai;rw[bG,gW];refine⟨h.1,sP,λf ha g a=>?_⟩;simp only[eH,fZ,cS]at a;subst a;intro e;subst e;let⟨q,hq,e⟩:=aY.1 ha;have:=List.any_eq_false.1 d q hq;simp[e]at this
 obtain hq|hq:=bU.1 hq;·exact h.2 q hq
 rw[cS.1 hq];exact c
theorem xN:∀(r a:Wy),iP a->gy a r=true->iP (a++r)
 |[],a,h,_=>by rw[fF];exact h
 |m::r,a,h,hg=>by
  simp only[gy,bY]at hg;have:=xN r (a++[m]) (h.snoc hg.1) hg.2;simpa using this
theorem iP.start{L:Wy}(h:iP L):b9 (bu L)/\dg (bu L)=2*(bu L).length:=by
 have b:∀m∈bu L,m∈L/\m.1≠m.2:=λm a=>by simpa [bu]using a
 refine⟨⟨h.1.sublist<|List.filter_sublist.map _,λm a=>?_,λm a=>?_,λm a=>?_⟩,?_⟩;·have:=h.2 m (b m a).1;omega
 .have:=h.2 m (b m a).1;omega
 .exact λe=>(b m a).2 e.symm
 unfold dg;rw[List.filter_eq_self.2 λm a=>by have:=h.2 m (b m a).1;simp;omega];omega
theorem rK{L:Wy}(h:bw L=true):L.length<=64/\iP L:=by
 simp only[bw,bY,bD]at h;exact⟨h.1,by simpa using xN L [] ⟨by simp[ai],sP⟩ h.2⟩
theorem Xq(h:(R.info? n).map (λi=>(i.8,i.3,i.4))=some (some a,m,k)):∃i,R.info? n=some i/\i.8=some a/\i.3=m/\i.4=k:=by
 cases hi:R.info? n with
 |none=>rw[hi]at h;cases h
 |some i=>
  rw[hi]at h;simp only[jY,Option.some.injEq,jC]at h;exact⟨i,rfl,h.1,h.2.1,h.2.2⟩
theorem Yf(w:Ub)(u:Uj)(b:Nat):∀j x,([u]:Wo)[j]?=some x->(w.alloc<|.cells #[u] b).cell? ((⟨w.1.size,0,none⟩:Addr).add j)=some x:=λj x a=>by
 have ha:((Hk w.1.size 0):Addr).add j=(Hk w.1.size j):=by unfold Addr.add;split<;>simp_all
 rw[ha]
 match j,a with
 |0,a=>simpa using a
 |j+1,a=>cases a
def gj(w:Ub)(L B:Nat)(c:Uy)(a:Wy):Prop:=∀i (h:i<a.length),∃b o,c=some ⟨b,o,none⟩/\(L<=b/\b<B)/\w.cell? ⟨b,o+i*2,none⟩=some (.int .i64 a[i].1)/\w.cell? ⟨b,o+i*2+1,none⟩=some (.int .i64 a[i].2)
theorem gj.keepS{w':Ub}{c:Wy}(h:gj w n m p c)(k:YA n m w w'):gj w' n m p c:=λi g=>by
 let⟨b,o,e,a,d,f⟩:=h i g;have q:=k b a.1 a.2;exact⟨b,o,e,a,(Xc q).trans d,(Xc q).trans f⟩
theorem gj.keep{w':Ub}{a:Wy}(h:gj w n m p a)(k:Below m w w'):gj w' n m p a:=h.keepS<|YA.of_below k
theorem xZ{a:Wy}(h:n<a.length):gy (a.take n) (a.drop n)=(ly (a.take n) a[n]&&gy (a.take<|n+1) (a.drop<|n+1)):=by
 rw[gZ h,gy,kJ,aC h];rfl
theorem I4(c:Nat){a:Wy}(ha:Hs (gj w m k p a))(r:Hs (n=a.length))(hn:n<=1048576)(hB:k<=w.1.size):
 Calls prog 133 #[.slice p n c] w λg w'=>g=.returned (.bool (bw a))/\Below w.1.size w w':=by
 by_cases ad:64<n
 .have v:Hs (bw a=false):=Xa (by unfold bw;have:=r.o;simp;intro l;omega)
  go_in
  go_wp2;go_ret;exact⟨by rw[v.o];rfl,Below.refl _ _⟩
 have v:Hs (bw a=gy [] a):=Xa (by unfold bw;have:=r.o;simp;omega)
 go_in
 go_wp2
 go_loopw [3] (λD wr=>∃j:Nat,j<=n/\D=Hp j/\Hs (Below w.1.size w wr)/\Hs (bw a=gy (a.take j) (a.drop j))) λD _=>n-(intOf D).toNat
 case atStart=>exact⟨0,aN,rfl,Xa<|Below.refl _ _,Xa<|by rw[v.o];rfl⟩
 obtain⟨j,hj,rfl,d,i⟩:=hrel;by_cases af:j<n
 .have I:j<a.length:=oN r.o
  obtain⟨Q,aa,rfl,ac,y,F⟩:=ha j I;have e0:=(XU d oM).trans y;have e1:=(XU d oM).trans F;have x:=Xa<|xZ I;have s:Hs (ly (a.take j) a[j]=(decide (0<=a[j].1/\a[j].1<64/\0<=a[j].2/\a[j].2<64)&&!(a.take j).any λq=>q.1==a[j].1)):=Xa rfl;have L:Hs (∀q,q<j->∃hq:q<a.length,w.cell? (Hk Q<|aa+q*2)=some (Hp a[q].1)):=Xa (λq hq=>by
   have J:q<a.length:=oM;let⟨b',o',g,_,A,_⟩:=ha q J;cases g;exact⟨J,A⟩)
  have P:=Xa y;generalize V:a[j]=Z at*;let⟨t,h⟩:=Z;dsimp only at*;by_cases C:0<=t/\t<64/\0<=h/\h<64
  .let⟨r1,r2,r3,r4⟩:=C;go_wp2
   go_loopw [4] (λu ab=>∃q:Nat,q<=j/\u=Hp q/\Hs (Below w.1.size w ab)/\Hs (∀b (_:b<a.length),b<q->a[b].1≠t)) λu _=>j-(intOf u).toNat
   case atStart=>exact⟨0,aN,rfl,d,Xa λb _ o=>absurd o oM⟩
   obtain⟨q,hq,rfl,e,E⟩:=hrel;have f0:=(XU e oM).trans P;by_cases X:q<j
   .let⟨al,G⟩:=L q X;have R:=(XU e oM).trans G;by_cases B:a[q].1=t
    .have f:Hs (bw a=false):=Xa (by
      rw[i.o,x.o,s.o];have:(a.take j).any (λz=>z.1==t)=true:=List.any_eq_true.2 ⟨a[q],List.mem_take_iff_getElem.2 ⟨q,oM,rfl⟩,by simp[B]⟩;rw[this];simp)
     rw[B]at R;go_wp2;go_region;go_wp2;go_ret;exact⟨by rw[f.o];rfl,e.drew⟩
    have N:=Xa B;generalize K:a[q].1=u at*;have O:=Xa K;go_wp2;go_region
    go_wp2;exact⟨⟨q+1,oM,gM,Xa e.drew,Xa (λb o aj=>by
     by_cases g:b=q;·subst g;rw[O.o];exact N
     exact E b o oM)⟩,by simp[intOf];omega⟩
   have W:q=j:=oM
   subst W;have M:Hs (bw a=gy (a.take<|q+1) (a.drop<|q+1)):=Xa (by
    rw[i.o,x.o,s.o];have A:(a.take q).any (λz=>z.1==t)=false:=List.any_eq_false.2 (λz Y=>by
     obtain⟨b,o,rfl⟩:=List.mem_take_iff_getElem.1 Y;have:=E b oM oM;simpa using this)
    rw[A];simp[r1,r2,r3,r4])
   go_wp2;exact⟨⟨q+1,oM,gM,e,M⟩,by simp[intOf];omega⟩
  have f:Hs (bw a=false):=Xa (by
   rw[i.o,x.o,s.o];simp[C])
  have T:t<0\/(0<=t/\64<=t)\/(0<=t/\t<64/\h<0)\/(0<=t/\t<64/\0<=h/\64<=h):=oM;obtain l|⟨l,H⟩|⟨l,H,S⟩|⟨l,H,S,hD⟩ :=T<;>
   (go_wp2;go_ret;exact⟨by rw[f.o];rfl,d⟩)
 have U:j=n:=oM
 subst U;have f:Hs (bw a=true):=Xa (by
  rw[i.o,mP<|oN r.o];rfl)
 go_wp2;go_ret;exact⟨by rw[f.o];rfl,d⟩
theorem JR(c:Nat)(r:Int){a:Wy}(ha:Hs (gj w k B p a))(t:Hs (n=a.length))(O:n<=1048576)(K:m<n)(E:Hs (∀q (_:q<a.length),q=m->a[q].2≠r)):
 Calls prog 169 #[.slice p n c,Hp m,Hp r] w λe F=>e=.returned (.bool (an a r))/\F=w:=by
 go_in
 go_wp2
 go_loopw [7] (λu wr=>∃j:Nat,j<=n/\u=Hp j/\wr=w/\Hs (∀b (_:b<a.length),b<j->a[b].2≠r)) λu _=>n-(intOf u).toNat
 case atStart=>exact⟨0,aN,rfl,rfl,Xa λb _ f=>absurd f oM⟩
 obtain⟨j,L,rfl,rfl,i⟩:=hrel;by_cases N:j<n
 .have g:j<a.length:=oN t.o
  obtain⟨G,R,rfl,I,H,e1⟩:=ha j g;have l:Hs (a[j].2≠r->∀b (_:b<a.length),b<j+1->a[b].2≠r):=Xa (λh b f P=>by
   by_cases e:b=j;·subst e;exact h
   exact i b f oM)
  have A:Hs (a[j].2=r->an a r=true):=Xa λh=>yV.2 ⟨a[j],aH g,h⟩;have y:=Xa<|E.o j g;generalize a[j].2=o at*;by_cases s:j=m
  .have d:=y s;subst s;go_wp2;exact⟨⟨j+1,oM,gM,(by first|rfl|trivial),Xa<|l.o d⟩,by simp[intOf];omega⟩
  have M:¬((j:Int)=(m:Int)):=oM;by_cases d:o=r
  .have z:=Xa<|A.o d;subst d;go_wp2;go_ret;exact⟨by rw[z.o];rfl,rfl⟩
  have J:(o==r)=false:=by simpa using d
  have x:=Xa<|l.o d;go_wp2;exact⟨⟨j+1,oM,gM,(by first|rfl|trivial),x⟩,by simp[intOf];omega⟩
 have C:j=n:=oM
 subst C;have v:Hs (an a r=false):=Xa (by
  cases hb:an a r with
  |false=>rfl
  |true=>
   let⟨Q,D,e⟩:=yV.1 hb;obtain⟨b,f,rfl⟩:=bR D;exact absurd e<|i b f (oN t.o))
 go_wp2;go_ret;exact⟨by rw[v.o];rfl,rfl⟩
def Ng(a:Wy):Wo:=a.flatMap λm=>[.int .i64 m.1,.int .i64 m.2]
theorem xO{m:Mv}{a:Wy}:Ng (m::a)=[Hp m.1,Hp m.2]++Ng a:=rfl
theorem nf{a b:Wy}:Ng (a++b)=Ng a++Ng b:=by simp[Ng]
theorem yh:∀a:Wy,(Ng a).length=a.length*2
 |[]=>rfl
 |m::a=>by rw[xO,aQ,yh a];simp;omega
theorem rX:∀(a:Wy)(i:Nat)(h:i<a.length),(Ng a)[i*2]?=some (Hp a[i].1)/\(Ng a)[i*2+1]?=some (Hp a[i].2)
 |[],i,h=>absurd h sP
 |m::a,0,_=>⟨rfl,rfl⟩
 |m::a,i+1,h=>by
  have:=rX a i (by simpa using h);rw[xO];rw[show(i+1)*2=i*2+1+1 by omega];simpa using this
theorem ja:((Hk n 0):Addr).add m=(Hk n m):=by unfold Addr.add;split<;>simp_all
theorem Jj(h:w.ownsRow n m k (Hl B g c) g y){u:Uj}(a:y[j]?=some u):w.cell? (Hk B j)=some u:=by
 have:=h.cells (g:=B) rfl j u a;rw[ja]at this;exact this
theorem ol(h:w.ownsRow n m k (Hl B g c) g y)(o:Nat):w.frozen? (Hk B o)=false:=by
 obtain⟨e2,_⟩|⟨g',cap,cur,e2,_,hh,_⟩:=h.2;·cases e2
 injection e2 with e3;injection e3 with e3;injection e3 with e4;subst e4;simp[World.frozen?,hh]
theorem Vc(h:w.ownsRow n m k a B y):(a=.slice none 0 0/\B=0/\y=[])\/∃g c,a=.slice (some ⟨g,0,none⟩) B c/\(n<=g/\g<w.1.size)/\B<=c:=by
 obtain⟨e1,e2⟩|⟨g,cap,cur,e1,hb,hh,hc,_⟩:=h.2
 .refine bC ⟨e1,e2,iE ?_⟩;rw[h.1,e2,lC]
 exact aZ ⟨g,cap,e1,⟨hb,(aS.1 hh).1⟩,hc⟩
theorem m9{b:Wy}(h:w.ownsRow n m 2 a k (Ng b)):∃e c,a=.slice e b.length c/\k=b.length/\b.length<=c/\gj w n w.1.size e b:=by
 have f:=h.1;rw[yh]at f;have j:k=b.length:=oM;subst j;obtain⟨rfl,h0,_⟩|⟨g,c,rfl,hg,hc⟩:=Vc h
 .have:b=[]:=iE h0;subst this;exact⟨none,0,rfl,rfl,aA,λi d=>absurd d sP⟩
 refine⟨_,c,rfl,rfl,hc,λi d=>⟨g,0,rfl,hg,?_,?_⟩⟩;·rw[aV];exact Jj h (rX b i d).1
 rw[aV];exact Jj h (rX b i d).2
theorem RA:(prog.info? 144).map (λi=>(i.8,i.3,i.4))=some (some<|.agg #[Hp 0,Hp 0],2,16):=vZ
theorem sJ(w:Ub):(w.alloc<|.cells #[] 144).ownsRow w.1.size 144 2 (.slice (some ⟨w.1.size,0,none⟩) 0 0) 0 (Ng []):=by
 have:=eI (base:=w.1.size) (e:=144) (size:=2) w #[] 0 sP sP rfl;simpa [Ng]using this
theorem ng(w:Ub):∀j u,([.int .i64 t,.int .i64 T]:Wo)[j]?=some u->(w.alloc<|.cells #[.int .i64 t,.int .i64 T] n).cell? ((⟨w.1.size,0,none⟩:Addr).add j)=some u:=λj u a=>by
 rw[ja]
 match j,a with
 |0,a=>simpa using a
 |1,a=>simpa using a
 |j+2,a=>cases a
theorem IY(c:Nat){a:Wy}(ha:Hs (gj w k B p a))(s:Hs (n=a.length))(Z:n<=64)(T:m<n)(R:B<=w.1.size):
 Calls prog 170 #[.slice p n c,Hp m] w λA t=>∃v,A=.returned v/\Below w.1.size w t/\t.ownsRow w.1.size 144 2 v (a.eraseIdx m).length (Ng<|a.eraseIdx m):=by
 let⟨M,F,J,K,L⟩:=fX RA
 go_in
 go_wp2
 go_loopw [5,6] (λv u wr=>∃j:Nat,j<=n/\u=Hp j/\Hs (Below w.1.size w wr)/\Hs (wr.ownsRow w.1.size 144 2 v ((a.take j).eraseIdx m).length (Ng<|(a.take j).eraseIdx m))) λ_ u _=>n-(intOf u).toNat
 case atStart=>exact⟨0,aN,rfl,Xa<|Xb (Below.refl _ _) _,Xa<|by rw[lK];exact sJ w⟩
 obtain⟨j,U,rfl,b,d⟩:=hrel;have aa:=b.4;by_cases Y:j<n
 .have o:j<a.length:=oN s.o;obtain⟨Q,ab,rfl,S,h,i⟩:=ha j o;have C:=(XU b oM).trans h;have e1:=(XU b oM).trans i;have f:=Xa<|bN o;have g:Hs (((a.take j).eraseIdx m).length<=64):=Xa (aJ (List.length_eraseIdx_le _ _) (by simp;omega));by_cases G:j=m
  .have e:Hs ((a.take<|j+1).eraseIdx m=(a.take j).eraseIdx m):=Xa (by
    rw[f.o,List.eraseIdx_append_of_length_le (by simp;omega),List.eraseIdx_of_length_le (l:=a.take j) (by simp;omega)];have:m-(a.take j).length=0:=by simp;omega
    rw[this];simp)
   subst G;go_wp2;exact⟨⟨j+1,oM,gM,b,Xa<|by rw[e.o];exact d⟩,by simp[intOf];omega⟩
  have V:¬((j:Int)=(m:Int)):=oM
  have e:Hs ((a.take<|j+1).eraseIdx m=(a.take j).eraseIdx m++[a[j]]):=Xa (by
   rw[f.o];by_cases W:m<j;·rw[List.eraseIdx_append_of_lt_length<|by simp;omega]
   rw[List.eraseIdx_append_of_length_le (by simp;omega),List.eraseIdx_of_length_le (l:=a.take j) (by simp;omega)]
   rw[List.eraseIdx_of_length_le<|by simp;omega])
  generalize H:a[j]=N at*;let⟨O,D⟩:=N;dsimp only at*;generalize (a.take j).eraseIdx m=ys at*;go_wp2_with (at_builtin;refine bT _ rfl _ _ 142 rfl w.1.size 144 M (.agg #[Hp 0,Hp 0]) 2 16 underlying142 F J K L rfl vY _ _ _ rfl (d.alloc _) (Hk wr.1.size 0) 1 1 [Hp O,Hp D] rfl rfl ?c1 ?c2 ?c3 ?c4 ?c5 ?_)
  case c1=>exact ng _
  case c2=>intro u r;simp at r;obtain rfl|rfl:=r<;>rfl
  case c3=>have:=g.o;unfold maxLen;omega
  case c4=>have:=g.o;omega
  case c5=>simp;omega
  intro v1 P q l I E;have y:Hs (P.ownsRow w.1.size 144 2 v1 ((a.take<|j+1).eraseIdx m).length (Ng<|(a.take<|j+1).eraseIdx m)):=Xa (by
   rw[e.o,nf,aQ];exact q)
  have x:=Xa (Xy ((b).alloc oM _) l (d.alloc _) aA (by simp;omega));go_wp2;exact⟨⟨j+1,oM,gM,x,y⟩,by simp[intOf];omega⟩
 have X:j=n:=oM;have z:=Xa (by have:=d.o;rwa[aW<|oN s.o]at this);go_wp2;go_ret;exact⟨_,rfl,b,z⟩
theorem TS{T:Type}{C:T->Uj}{f:Nat->T}(h:w.rowIs n m k λz=>C<|f z)(r:Nat)(v:T):(w.setCell ⟨n,r,none⟩ (C v)).rowIs n m k (λz=>C<|if z=r then v else f z) :=
 (h.set r<|C v).congr (λz _=>by by_cases e:z=r<;>simp[e])
theorem UC{T:Type}{C:T->Uj}{f a:Nat->T}(h:w.rowIs n m k λz=>C<|f z)(e:∀z,z<k->f z=a z):w.rowIs n m k (λz=>C<|a z):=h.congr λz b=>by rw[e z b]
theorem Q7:(prog.info? 4).map (λi=>(i.8,i.3,i.4))=some (some<|.bool false,1,1):=vZ
def Zc(B:Nat):Nat:=(List.range 8).countP λi=>B.testBit i
def E1(f:Nat->Nat):Nat->Nat->Nat
 |0,_=>0
 |n+1,x=>f (x%256)+256*E1 f n (x/256)
def Wr(c:Nat):Nat->Nat
 |0=>0
 |n+1=>c+256*Wr c n
theorem KA(a:n<256)(d:c<256):(n+256*m)&&&(c+256*k)=(n&&&c)+256*(m&&&k):=by
 have b:n&&&c<2^8:=iC jB a;have e1:n+256*m=2^8*m+n:=oM;have e2:c+256*k=2^8*k+c:=oM;have e3:(n&&&c)+256*(m&&&k)=2^8*(m&&&k)+(n&&&c):=oM;rw[e1,e2,e3];apply Nat.eq_of_testBit_eq;intro i;rw[jW,iH _ a,iH _ d,iH _ b];by_cases h:i<8;·simp[h]
 simp[h]
def f1(B:Nat):Nat:=(B/2&&&85)+(B&&&85)
def f2(B:Nat):Nat:=(B/4&&&51)+(B&&&51)
def f3(B:Nat):Nat:=(B/16+B)&&&15
theorem DJ:∀t,t<2->∀B,B<256->(B/2+128*t)&&&85=B/2&&&85:=by decide +kernel
theorem D4:∀t,t<4->∀B,B<256->(B/4+64*t)&&&51=B/4&&&51:=by decide +kernel
theorem kT:∀B,B<256->f1 B<256:=by decide +kernel
theorem rq:∀B,B<256->f2 B<256:=by decide +kernel
abbrev rC(B:Nat):Prop:=B%16<=4/\B/16<=4
theorem EV:∀B,B<256->rC (f2<|f1 B):=by decide +kernel
theorem CY:∀t,t<=4->∀B,B<256->rC B->B/16+16*t+B<256/\(B/16+16*t+B)&&&15=f3 B:=by decide +kernel
theorem Gt:∀B,B<256->f3 (f2<|f1 B)=Zc B:=by decide +kernel
theorem uo:∀B,B<256->Zc B<=8:=by decide +kernel
theorem oZ{f:Wk}(a:∀B,B<256->f B<256):∀n x,E1 f n x<256^n
 |0,_=>by simp[E1]
 |n+1,x=>by
  have b:=oZ a n<|x/256;have c:=a (x%256) (dS _ vY);simp only[E1,Nat.pow_succ];omega
theorem map_map{f h:Wk}(a:∀B,B<256->h B<256):∀n x,E1 f n (E1 h n x)=E1 (λB=>f<|h B) n x
 |0,_=>rfl
 |n+1,x=>by
  have b:=a (x%256) (dS _ vY);simp only[E1];have e1:(h (x%256)+256*E1 h n (x/256))%256=h (x%256):=oM;have e2:(h (x%256)+256*E1 h n (x/256))/256=E1 h n (x/256):=oM;rw[e1,e2,map_map a n]
theorem tP{f h:Wk}(e:∀B,B<256->f B=h B):∀n x,E1 f n x=E1 h n x
 |0,_=>rfl
 |n+1,x=>by simp only[E1];rw[e _<|dS _ vY,tP e n]
theorem wV:∀n x,(x/2&&&Wr 85 n)+(x&&&Wr 85 n)=E1 f1 n x
 |0,x=>by simp[Wr,E1]
 |n+1,x=>by
  have a:x%256<256:=dS _ vY;have ex:x=x%256+256*(x/256):=oM;have d:x/2=(x%256/2+128*(x/256%2))+256*(x/256/2):=oM;have e:=wV n<|x/256;simp only[E1,Wr];rw[<-e];have b:x/2&&&(85+256*Wr 85 n)=(x%256/2&&&85)+256*(x/256/2&&&Wr 85 n):=by
   rw[d,KA oM vY,DJ _ (dS _ vY) _ a]
  have c:x&&&(85+256*Wr 85 n)=(x%256&&&85)+256*(x/256&&&Wr 85 n):=by
   conv=>lhs;rw[ex]
   exact KA a vY
  rw[b,c];unfold f1;omega
theorem wP:∀n x,(x/4&&&Wr 51 n)+(x&&&Wr 51 n)=E1 f2 n x
 |0,x=>by simp[Wr,E1]
 |n+1,x=>by
  have a:x%256<256:=dS _ vY;have ex:x=x%256+256*(x/256):=oM;have d:x/4=(x%256/4+64*(x/256%4))+256*(x/256/4):=oM;have e:=wP n<|x/256;simp only[E1,Wr];rw[<-e];have b:x/4&&&(51+256*Wr 51 n)=(x%256/4&&&51)+256*(x/256/4&&&Wr 51 n):=by
   rw[d,KA oM vY,D4 _ (dS _ vY) _ a]
  have c:x&&&(51+256*Wr 51 n)=(x%256&&&51)+256*(x/256&&&Wr 51 n):=by
   conv=>lhs;rw[ex]
   exact KA a vY
  rw[b,c];unfold f2;omega
def VM:Nat->Nat->Prop
 |0,x=>x=0
 |n+1,x=>rC (x%256)/\VM n (x/256)
theorem vy:∀n x,VM n<|E1 (λB=>f2<|f1 B) n x
 |0,_=>rfl
 |n+1,x=>by
  have a:x%256<256:=dS _ vY;have d:=rq _<|kT _ a;have b:=EV _ a;have c:=vy n<|x/256;simp only[E1,VM];have e1:(f2 (f1<|x%256)+256*E1 (λB=>f2<|f1 B) n (x/256))%256=f2 (f1<|x%256):=oM;have e2:(f2 (f1<|x%256)+256*E1 (λB=>f2<|f1 B) n (x/256))/256=E1 (λB=>f2<|f1 B) n (x/256):=oM;rw[e1,e2];exact⟨b,c⟩
theorem EA:∀n x,VM n x->x%16<=4
 |0,x,h=>by simp only[VM]at h;omega
 |n+1,x,h=>by
  have:=h.1.1;omega
theorem wR:∀n x,VM n x->(x/16+x)&&&Wr 15 n=E1 f3 n x
 |0,x,_=>by simp[Wr,E1]
 |n+1,x,h=>by
  have c:x%256<256:=dS _ vY;have e:=wR n (x/256) h.2;have d:=EA n _ h.2;let⟨a,b⟩:=CY _ d _ c h.1;simp only[E1,Wr];rw[<-e,<-b];have ex:x/16+x=(x%256/16+16*(x/256%16)+x%256)+256*(x/256/16+x/256):=oM;rw[ex,KA a vY]
def NZ(n x:Nat):Nat:=(List.range<|8*n).countP λi=>x.testBit i
theorem Bv:NZ (n+1) m=Zc (m%256)+NZ n (m/256):=by
 unfold NZ Zc;have e:8*(n+1)=8+8*n:=oM;rw[e,lI,lN,List.countP_map];congr 1
 .apply kK;intro i a;have:i<8:=bE.1 a;have e2:(m%2^8).testBit i=m.testBit i:=by rw[Nat.testBit_mod_two_pow];simp[this]
  rw[show m%256=m%2^8 from rfl,e2]
 apply kK;intro i a;have e2:(m/2^8).testBit i=m.testBit (8+i):=by rw[Nat.testBit_div_two_pow,Nat.add_comm]
 rw[show m/256=m/2^8 from rfl,e2];rfl
def rA(f:Nat->Nat):Nat->Nat->Nat
 |0,_=>0
 |n+1,x=>f (x%256)+rA f n (x/256)
theorem uh:∀n x,NZ n x=rA Zc n x
 |0,_=>rfl
 |n+1,x=>by rw[Bv,uh n];rfl
def T3(c:UInt8):Bool:=decide (48<=c.toNat)&&decide (c.toNat<=57)
def Ax(f:Wn)(a:Nat):Bool:=!(f.length==0||decide (a<f.length)||(f.head? == some 48&&decide (1<f.length)))&&f.all T3
def Bo(f:Wn):Nat:=f.foldl (λa c=>a*10+(c.toNat-48)) 0
theorem yK{f:Wn}(c:UInt8):Bo (f++[c])=Bo f*10+(c.toNat-48):=by simp[Bo]
theorem JS(f:Wn):∀a:Nat,f.all T3=true->f.foldl (λa c=>a*10+(c.toNat-48)) a<(a+1)*10^f.length:=by
 induction f with
 |nil=>intro a _;simp
 |cons c r e=>
  intro a h;rw[List.all_cons,bY]at h;have d:=h.1;simp only[T3,bY,bD]at d;have b:=e (a*10+(c.toNat-48)) h.2;rw[iM,bA,Nat.pow_succ];refine aX b ?_
  calc (a*10+(c.toNat-48)+1)*10^r.length<=((a+1)*10)*10^r.length:=jI _ oM
   _=(a+1)*(10^r.length*10):=by rw[Nat.mul_assoc,Nat.mul_comm 10]
theorem zn{f:Wn}(h:f.all T3=true):Bo f<10^f.length:=by
 have:=JS f 0 h;simpa [Bo]using this
def Gb(f:Wn):Int:=if Ax f 4=true then (Bo f:Int)else -1
def NM:List UInt8->Bool
 |45::c::r=>c != 48&&NM (c::r)&&c != 45
 |f=>Ax f 10&&decide (Bo f<=1000000000)
def i9(f:Wn):Int:=if f.head?=some 45 then -(Bo f.tail:Int)else Bo f
def am(sep:UInt8):List UInt8->List UInt8->List (List UInt8)
 |cur,[]=>[cur]
 |cur,c::r=>if c=sep then cur::am sep [] r else am sep (cur++[c]) r
def C3(a:Wn)(sep:UInt8):Vw:=am sep [] a
def Y3(f:Wn):Bool:=decide (0<f.length)&&f.all λc=>decide (33<=c.toNat)&&decide (c.toNat<=126)
def Bf(a:Wn):Vw:=if (C3 a 32).all Y3=true then C3 a 32 else []
end Go.Proofs.YtcfdhbigppockaaGreatDoor
