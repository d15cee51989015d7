import Derived.Test.YtcncjgijikoapaaGreatDoorTA
import Derived.Deep.MidRow
import Derived.Deep.Slices
import Derived.Test.YtcncjgijikoapaaGreatDoorProg
import Derived.WalkSpells
import Derived.WalkLawsBesides
import Derived.Deep.RegionHeld3
import Derived.Deep.RegionWith
import Derived.Deep.DrawnRows
import Derived.BigQuiet
import Derived.Laws.BitsAllLaws
namespace Go.Proofs.YtcncjgijikoapaaGreatDoor
set_option maxHeartbeats 2000000
open _root_ renaming Array.size->Z,Nat->N,rfl->R,Int->I,Option.some->S,Option.none->U,Bool.false->Sn,List.length->J,absurd->Sz,Bool.true->So,List.range->Rg,Decidable.decide->Jd
open Go renaming World.setCell->Se,World.cell?->E,IntKind.i64->S6,World.alloc->D,World.ownsRow->Sx,Obj.cells->Sc,RowKit.Below->Sw,Ending.returned->Rt,Calls->Sk,results->JC,RowKit.intOf->JB
open Value renaming int->Si,slice->X,bool->Sb,string->Sg,agg->Sa
open Go.RowKit Go.Proofs.Tryz
variable{r:Bool}{t T z:I}{n m k B g:N}{w v u:Ub}{a:Uj}{p:Uy}{s:Wa}{l:Wc}{x:Wi}{f F:Wk}{y:Wo}{q:Xe}
section
variable {w w1: Ub} {L B b t N_: N} {f: N -> Uj}
theorem YA.refl(L B w):YA L B w w:=λ_ _ _=>R
theorem YA.setCell(h:YA L B w w1){p}(d:p.1<L\/B<=p.1)(v:Uj):YA L B w (Se w1 p v):=λk a c=>by rw[cY O];exact h k a c
theorem Xd{w:Ub}{p}{v:Uj}:Z (Se w p v).1=Z w.1:=SH
end
section
open Go.Deep
structure IW(L B:N)(w w':Ub):Prop where
 os:w'.4=w.4
 tape:w'.2=w.2
 output:w'.5=w.5
 size:Z w'.1=Z w.1
 block:∀k,¬(L<=k/\k<B)->w'.1[k]?=w.1[k]?
 cell:∀p,E w' p=E w p\/∃u v,E w p=S (Si S6 u)/\E w' p=S (Si S6 v)
 frozen:∀p,w'.frozen? p=w.frozen? p
variable {w w' w1: Ub} {L B: N}
theorem IW.int(h:IW L B w w'){p u}(b:E w p=S (H u)):∃v,E w' p=S (H v):=by
 obtain e|⟨_,v,_,e⟩:=h.6 p;·exact⟨u,G e b⟩
 exact⟨v,e⟩
def iy(L B:N)(w:Ub):Prop:=∀b o,L<=b/\b<B->w.frozen? ⟨b,o,U⟩=Sn
variable {L' B': N} {a: Uy}
end
def Zx(w:Ub)(L B:N)(c:Uy)(a:Wo):Prop:=∀i (h:i<J a),∃b o,c=S ⟨b,o,U⟩/\(L<=b/\b<B)/\E w ⟨b,o+i,U⟩=S a[i]
theorem Zx.keepS{w'}(h:Zx w n m p y)(k:YA n m w w'):Zx w' n m p y:=λi d=>by let⟨b,o,e,a,c⟩:=h i d;exact⟨b,o,e,a,by rw[Xc<|k b a.1 a.2];exact c⟩
theorem UO(h:Sx w n m 1 a k y):∃j c,a=X j (J y) c/\Zx w n (Z w.1) j y:=by
 obtain⟨f,h|⟨g,s,o,rfl,p,e,t,_,q,l⟩⟩:=h
 .obtain⟨rfl,rfl⟩:=h;have:y=[]:=by simpa using f
  subst this;exact⟨_,_,R,λi b=>Sz b sP⟩
 simp only[iN]at f q l;subst f;refine⟨_,_,R,λi b=>⟨g,0,R,⟨p,?_⟩,?_⟩⟩
 .rcases mL g (Z w.1) with d|d;·exact d
  rw[iI d]at e;cases e
 rw[aV,uE w g i o m (0,0) e,<-mX];have:=fI (λr:Wo=>r[i]?) l;simp only[List.getElem?_take,b,gG]at this;rw[this,aC b]
theorem uk(w:Ub)(a)(t:TypeId):Zx (D w<|Sc a.toArray t) (Z w.1) (Z w.1+1) (S ⟨Z w.1,0,U⟩) a:=λi b=>
 ⟨_,0,R,⟨aA,iJ⟩,by simp[b]⟩
def Yx(w:Ub)(L B:N)(a:Uy)(bs:Wn):Prop:=∀i (h:i<J bs),∃b o,a=S ⟨b,o,U⟩/\(L<=b/\b<B)/\E w ⟨b,o+i,U⟩=S (Si .u8 (bs[i].toNat:I))
theorem Yx.keepS{w' c}(h:Yx w n m p c)(k:YA n m w w'):Yx w' n m p c:=λi f=>by let⟨b,o,e,a,d⟩:=h i f;exact⟨b,o,e,a,by rw[Xc<|k b a.1 a.2];exact d⟩
theorem Yx.keep{w':Ub}{a}(h:Yx w n m p a)(k:Sw m w w'):Yx w' n m p a:=h.keepS<|ZU k
theorem Zk(h:Sx w n k B a g y)(i:m<=n):Sx w m k B a g y:=by
 obtain⟨b,f|⟨e,c,d,l,j,r⟩⟩:=h;·exact⟨b,.inl f⟩
 exact⟨b,.inr ⟨e,c,d,l,aJ i j,r⟩⟩
theorem XL(w:Ub)(b)(h:n≠m)(v:Uj):E (Se w ⟨b,n,U⟩ v) ⟨b,m,U⟩=E w ⟨b,m,U⟩:=cJ<|by intro e;injection e with _ e2;exact h e2
def dB(a:I):Bool:=Jd (1<=a/\a<=8)||Jd (a=11)||Jd (a=13)
def aB(a:I):Bool:=Jd (3<=a/\a<=12)
def bB(a:I):Bool:=Jd (3<=a/\a<=7)||Jd (a=9)
def Tp(u:Bool)(x b a:I):Bool:=if u then Jd (b<=x)&&Jd (x<a)else x==0
def Wu(x:Yg):Bool:=if x.1==1 then Jd (-1000000000<=x.5)&&Jd (x.5<=1000000000)else if x.1==2 then Jd (0<=x.5)&&Jd (x.5<8)else x.5==0
def Yw(n a:I)(x:Yg):Bool :=
 decide (1<=x.1)&&Jd (x.1<=a)&&Tp (dB x.1) x.2 0 n&&Tp (aB x.1) x.a 0 n&&Tp (bB x.1) x.b 0 n&&Wu x
def Zu(n low a:I)(t:Yj):Bool :=
 decide (1<=t.1)&&Jd (t.1<=3)&&Tp (t.1 != 1) t.a 0 n&&Tp (t.1 != 3) t.3 low a&&Tp (t.1==2) t.4 low a
def Jf(n a:I)(t:Yj):Bool:=Zu n 1 a t&&!(t.1==2&&t.3==t.4)
def Yj.tg(t:Yj):Wc:=if t.1=1 then [t.3]else if t.1=2 then [t.3,t.4]else []
def XZ(a:Za):N:=(a.map λp=>1+J p.2).sum
def Ul(x:Xe):N:=1+J x.2+XZ x.1
def Xo(a:Wi):N:=(a.map Ul).sum
def AQ:List Xe->N->I->List I
 |[],_,_=>[]
 |x::xs,i,b=>(if x.3.tg.contains b then [(i:I)]else [])++AQ xs (i+1) b
def Fn.preds(F:Fn)(b:I):Wc:=AQ F.2 0 b
def XG(a:Za):Wc:=a.map (·.1)
def XI(a:Vr):Wc:=(a.filter λx=>dB x.1).map (·.2)
def Z6(x:Xe):Wc:=XG x.1++XI x.2
def BX(a:Wi):Wc:=a.flatMap Z6
def Y6(F:Fn):Bool:=Jd (0<=F.1)&&Jd (F.1<=2000)&&Jd (1<=J F.2)&&Jd (J F.2<=1000)&&Jd (Xo F.2<=4000)
def J2(F:Fn):Bool:=F.2.all λx=>Jf F.1 (J F.2) x.3
def Z0(F:Fn):Bool:=F.2.all λx=>x.2.all<|Yw F.1 10
def Jt(n:I)(k:N)(p:Ph):Bool:=Jd (1<=J p.2)&&Jd (J p.2=k)&&p.2.all λa=>Jd (0<=a)&&Jd (a<n)
def ZX(n:I)(k:N)(p:Ph):Bool:=Tp So p.1 0 n&&Jt n k p
def Zi(b:I->N->Ph->Bool)(F:Fn)(a:List Xe)(i:N):Bool :=
 match a with
 |[]=>So
 |x::a=>x.1.all (b F.1 (J (F.preds i)))&&Zi b F a (i+1)
def Ug(F:Fn):Bool:=Zi Jt F F.2 0
def KL(F:Fn):Bool:=Zi ZX F F.2 0
def F5(a:Wc)(v:I):N:=J (a.filter λx=>x==v)
def JM(F:Fn):Bool:=(Rg F.1.toNat).all λv=>F5 (BX F.2) v==1
def Ui(F:Fn):Bool:=Jd ((J (BX F.2):I)=F.1)&&(Rg F.1.toNat).all λv=>(BX F.2).contains (v:I)
def XJ(F:Fn):Bool:=Y6 F&&J2 F&&Z0 F&&KL F&&JM F
def iu(F:Fn):Bool:=Y6 F&&(Z0 F&&J2 F)&&Ug F&&Ui F
def JG(a:Za):N:=(a.map λp=>J p.2).sum
def ZZ(x:Xe):N:=J x.1+JG x.1+J x.2
def Xx(a:Wi):N:=(a.map ZZ).sum
theorem Vm:Xx (x++[q])=Xx x+ZZ q:=by simp[Xx]
theorem Tw{b:Type}(f:b->N)(a:List b)(k):((a.take k).map f).sum<=(a.map f).sum:=by
 induction a generalizing k with
 |nil=>simp
 |cons x a c=>cases k with
  |zero=>simp
  |succ k=>simp only[uw,eH,kX];have:=c k;omega
theorem UX(a k):Xx (a.take k)<=Xx a:=Tw _ _ _
theorem f9{k}(h:t=T):Rt (Si k t)=Rt (Si k T):=by rw[h]
theorem Xl{b}(h:r=b):Rt (Sb r)=Rt (Sb b):=by rw[h]
theorem Yp:
 Sk prog 47 #[Sb r,H t,H T,H z] w λe c=>e=Rt (Sb (Tp r t T z))/\c=w:=by
 cases r
 .go_in
  go_wp2;go_ret;exact⟨R,R⟩
 by_cases a:T<=t<;>by_cases b:t<z
 all_goals
  go_in
  go_wp2;go_ret;exact⟨by simp[Tp,a,b],R⟩
theorem X7{b:Type}{a:List b}(h:n<J a):a.take (n+1)=a.take n++[a[n]]:=bN h
def FV(a:Za):Prop:=∀p∈a,J p.2<=1048576
def Fv(a:Wi):Prop:=∀x∈a,J x.1<=1048576/\J x.2<=1048576/\FV x.1
theorem RH:(prog.info? 2).map (λi=>(i.8,i.3,i.4))=S (S<|H 0,1,8):=vZ
theorem qp:F5 l t=l.count t:=by unfold F5;rw[List.count,gK]
theorem Ed:∀l:Wc,J l=n->(∀v:N,v<n->(v:I)∈l)->(∀d∈l,0<=d/\d<n)/\∀v:N,v<n->l.count (v:I)=1:=by
 induction n with
 |zero=>
  intro l e _;have:l=[]:=iE e;subst this;exact⟨λd a=>(eA a).elim,λv b=>Sz b O⟩
 |succ n p=>
  intro l e b;have f:=b n O;have m:J (l.erase (n:I))=n:=by rw[fP f];omega
  have o:∀v:N,v<n->(v:I)∈l.erase (n:I):=λv i=>(iF O).2 (b v O);let⟨c,j⟩:=p _ m o;have g:=mZ f;refine⟨λd a=>?_,λv i=>?_⟩
  .rcases cH.1 (g.mem_iff.1 a)with rfl|a;·omega
   have:=c d a;omega
  rw[g.count_eq,List.count_cons];by_cases h:v=n
  .subst h;have:(l.erase (v:I)).count (v:I)=0:=List.count_eq_zero.2 (λk=>by have:=c _ k;omega);simp[this]
  rw[j v O];have:((n:I)==(v:I))=Sn:=SB
  simp[this]
theorem BF(n:N):∀l:Wc,(∀d∈l,0<=d/\d<n)->(∀v:N,v<n->l.count (v:I)=1)->J l=n/\∀v:N,v<n->(v:I)∈l:=by
 induction n with
 |zero=>
  intro l c _;have:l=[]:=List.eq_nil_iff_forall_not_mem.2 (λd b=>by have:=c d b;omega);subst this;exact⟨R,λv k=>Sz k O⟩
 |succ n m=>
  intro l c a;have e:=kE.1 (by rw[a n O];omega);have p:=mZ e;have j:(l.erase (n:I)).count (n:I)=0:=by rw[List.count_erase_self,a n O]
  have g:∀d∈l.erase (n:I),0<=d/\d<n:=λd b=>by
   have h:=c d<|List.mem_of_mem_erase b;have o:d≠n:=λf=>by subst f;exact Sz b<|List.count_eq_zero.1 j
   omega
  have i:∀v:N,v<n->(l.erase (n:I)).count (v:I)=1:=λv h=>by rw[List.count_erase_of_ne O];exact a v O
  let⟨q,r⟩:=m _ g i;refine⟨by have:=fP e;have:0<J l:=eJ e;omega,λv h=>?_⟩;exact kE.1<|by rw[a v h];omega
def VF(n:I)(a:Wi):Bool:=a.all λx=>x.1.all λp=>Tp So p.1 0 n
theorem vw{a:Type}(p q:a->Bool){l:List a}:l.all (λx=>p x&&q x)=(l.all p&&l.all q):=by
 induction l with
 |nil=>rfl
 |cons x l b=>simp only[vi,b];cases p x<;>cases q x<;>cases l.all p<;>simp
theorem Aw{F}:∀(a:Wi)(i:N),Zi ZX F a i=(VF F.1 a&&Zi Jt F a i):=by
 intro a
 induction a with
 |nil=>intro i;rfl
 |cons x a b=>
  intro i;simp only[Zi,VF,vi,b];have:x.1.all (ZX F.1 (J (F.preds ↑i)))=(x.1.all (λp=>Tp So p.1 0 F.1)&&x.1.all (Jt F.1 (J (F.preds ↑i)))):=vw _ _;rw[this];cases x.1.all (λp=>Tp So p.1 0 F.1)<;>cases x.1.all (Jt F.1 (J (F.preds ↑i)))<;>simp
theorem BO{F}(e:Z0 F=So):(VF F.1 F.2=So↔∀d∈BX F.2,0<=d/\d<F.1):=by
 unfold VF BX;simp only[dV,bV,Z6,XG,XI,bU,aY,fG,Tp,gG,bY,bD];constructor
 .rintro h d⟨x,a,⟨p,b,rfl⟩|⟨y,⟨f,c⟩,rfl⟩⟩;·exact h x a p b
  have:=dV.1 (dV.1 e x a) y f;simp only[Yw,c,Tp,gG,bY,bD]at this;omega
 intro h x a p b;exact h _ ⟨x,a,bC ⟨p,b,R⟩⟩
theorem Bz{F}(c:0<=F.1)(d:Z0 F=So):(VF F.1 F.2&&JM F)=Ui F:=by
 rw[eQ];let⟨n,e⟩:=bX c;rw[bY,BO d];unfold JM Ui;rw[e];simp only[dV,bE,dM,iA,bY,bD,eY,qp];constructor
 .rintro⟨b,a⟩;let⟨g,f⟩:=BF n _ b a;exact⟨O,f⟩
 rintro⟨b,a⟩;exact Ed _ O a
theorem WY(F):XJ F=iu F:=by
 unfold XJ iu KL Ug;rw[Aw];cases hs:Y6 F;·simp
 cases hi:Z0 F;·simp
 cases ht:J2 F;·simp
 have a:0<=F.1:=by simp only[Y6,bY,bD]at hs;omega
 have:=Bz a hi;rw[<-this];cases VF F.1 F.2<;>cases Zi Jt F F.2 0<;>simp
theorem YL{P:Program}{fn:Func}{b:Ending->World->Prop}{a:Act}{w:World}{v:Value}{rs}(hR:b (Rt v) w)(he:fn.results=rs:=by exact rfl)(hr:(JC {fn with results:=rs} a.tmps).run P w=.ok v w:=by simp[results,go_sem, *])(hd:a.defers=[]:=by exact rfl):bodyPost P fn b .ret a w:=by subst he;exact ⟨hd,v,hr,hR⟩
theorem YU{P:Program}{f a w v}{c:World->Prop}{d:Ending->World->Prop}(h:Sk P f a w λe h=>e=Rt v/\c h)(k:∀h,c h->d (Rt v) h):Sk P f a w d:=h.mono λ_ h⟨e,b⟩=>e▸k h b
def Kz(a:I):ByteArray :=
 if a=1 then ⟨#[100,105]⟩else if a=2 then ⟨#[100,105]⟩else if 3<=a/\a<=7 then ⟨#[100,97,98]⟩else if a=8 then ⟨#[100,97]⟩else if a=11 then ⟨#[100,97]⟩
 else if a=9 then ⟨#[97,98]⟩else if a=10 then ⟨#[97]⟩else if a=12 then ⟨#[97]⟩else if a=13 then ⟨#[100]⟩else ⟨#[]⟩
theorem BA{a b}(h:a=b):Rt (Sg a)=Rt (Sg b):=by rw[h]
theorem qX(a)(w:Ub):
 Sk prog 121 #[H a] w λe d=>e=Rt (Sg (Kz a))/\d=w:=by
 by_cases h:1<=a/\a<=13
 .have b:a=1\/a=2\/a=3\/a=4\/a=5\/a=6\/a=7\/a=8\/a=9\/a=10\/a=11\/a=12\/a=13:=O;obtain rfl|rfl|rfl|rfl|rfl|rfl|rfl|rfl|rfl|rfl|rfl|rfl|rfl:=b
  all_goals
   go_in
   go_wp2;go_ret;exact⟨R,R⟩
 have f:(a==1)=Sn:=SB
 have l:(a==2)=Sn:=SB
 have m:(a==3)=Sn:=SB
 have n:(a==4)=Sn:=SB
 have o:(a==5)=Sn:=SB
 have p:(a==6)=Sn:=SB
 have q:(a==7)=Sn:=SB
 have r:(a==8)=Sn:=SB
 have s:(a==9)=Sn:=SB
 have g:(a==10)=Sn:=SB
 have i:(a==11)=Sn:=SB
 have j:(a==12)=Sn:=SB
 have k:(a==13)=Sn:=SB
 have c:Q (Kz a=⟨#[]⟩):=by show _=_;unfold Kz;rw[aM O,aM O,aM O,aM O,aM O,aM O,aM O,aM O,aM O]
 go_in
 go_wp2;go_ret;exact⟨BA c.symm,R⟩
def iq(s:ByteArray)(f:I):Bool:=s.1.1.any λc=>(c.toNat:I)==f
theorem DK{s}(a:n<s.size)(h:(s[n].toNat:I)=t):iq s t=So:=by unfold iq;rw[tj];exact⟨s[n],by rw[nB];exact Array.getElem_mem a,by simp[h]⟩
theorem EE{s}(h:∀j (a:j<s.size),(s[j].toNat:I)≠t):iq s t=Sn:=by unfold iq;rw[rT];intro c b;obtain⟨j,a,rfl⟩:=Array.mem_iff_getElem.1<|nB.1 b;have:=h j a;rw[iA];exact this
theorem q7(a):(Kz a).size<=3:=by
 unfold Kz
 repeat (split<;>try decide)
theorem U9:
 Sk prog 64 #[H t,Si .u8 T] w λe n=>e=Rt (Sb (iq (Kz t) T))/\n=w:=by
 go_in
 go_wp2_with fail
 refine YU (qX _ _) ?_;rintro q rfl;have p:=q7 t;generalize f:Kz t=s at*;have d:=Y f;clear f;go_wp2
 go_loop [6] (λi=>∃k:N,k<=s.size/\i=H k/\Q (∀j (b:j<s.size),j<k->(s[j].toNat:I)≠T)) λi=>s.size-(JB i).toNat
 .exact⟨0,aN,R,λj b h=>Sz h O⟩
 obtain⟨k,o,rfl,g⟩:=hrel;by_cases m:k<s.size
 .by_cases a:(s[k].toNat:I)=T
  .have l:((s[k].toNat:I)==T)=So:=by simp[a]
   have c:=Y a;clear a;go_wp2;go_ret;exact⟨Xl (by rw[Xw d];exact(DK m c).symm),R⟩
  have l:((s[k].toNat:I)==T)=Sn:=by simp[a]
  have c:=Y a;clear a;go_wp2
  go_round
  .exact⟨k+1,O,gM,λj b h=>if e:j=k then by subst e;exact c else g j b O⟩
  simp[JB];omega
 go_wp2;go_ret;exact⟨Xl (by rw[Xw d];exact(EE λj b=>g j b O).symm),R⟩
theorem zW50{p: Prop}(h: p := by obtain rfl|rfl|rfl|rfl|rfl|rfl|rfl|rfl|rfl|rfl|rfl|rfl|rfl:=a<;>rfl): p := h
theorem xj:iq (Kz t) 100=dB t:=by
 by_cases h:1<=t/\t<=13
 .have a:t=1\/t=2\/t=3\/t=4\/t=5\/t=6\/t=7\/t=8\/t=9\/t=10\/t=11\/t=12\/t=13:=O;exact zW50
 unfold Kz;rw[aM O,aM O,aM O,aM O,aM O,aM O,aM O,aM O,aM O];simp only[iq,dB];rw[dJ O,dJ O,dJ O];rfl
theorem xh:iq (Kz t) 97=aB t:=by
 by_cases h:1<=t/\t<=13
 .have a:t=1\/t=2\/t=3\/t=4\/t=5\/t=6\/t=7\/t=8\/t=9\/t=10\/t=11\/t=12\/t=13:=O;exact zW50
 unfold Kz;rw[aM O,aM O,aM O,aM O,aM O,aM O,aM O,aM O,aM O];simp only[iq,aB];rw[dJ O];rfl
theorem xg:iq (Kz t) 98=bB t:=by
 by_cases h:1<=t/\t<=13
 .have a:t=1\/t=2\/t=3\/t=4\/t=5\/t=6\/t=7\/t=8\/t=9\/t=10\/t=11\/t=12\/t=13:=O;exact zW50
 unfold Kz;rw[aM O,aM O,aM O,aM O,aM O,aM O,aM O,aM O,aM O];simp only[iq,bB];rw[dJ O,dJ O];rfl
theorem nZ(a)(w:Ub):Sk prog 64 #[H a,Si .u8 100] w λe b=>e=Rt (Sb (dB a))/\b=w:=xj▸U9
theorem vG(a)(w:Ub):Sk prog 64 #[H a,Si .u8 97] w λe b=>e=Rt (Sb (aB a))/\b=w:=xh▸U9
theorem vU(a)(w:Ub):Sk prog 64 #[H a,Si .u8 98] w λe b=>e=Rt (Sb (bB a))/\b=w:=xg▸U9
theorem ZO(t:Yj)(w:Ub):
 Sk prog 89 #[Sa #[H t.1,H t.a,H t.3,H t.4]] w λj f=>∃g c,j=Rt (X g (J t.tg) c)/\Sw (Z w.1) w f/\Xf f (Z w.1) (Z f.1) g t.tg:=by
 let⟨b,l,tg,k⟩:=t;by_cases d:b=1
 .subst d
  go_in
  go_wp2;go_ret;refine⟨_,_,R,Xb (Xb Rf _) _,λi a=>?_⟩;simp[Yj.tg]at a;subst a;exact⟨_,_,R,⟨sP,sP⟩,by simp[Yj.tg]⟩
 by_cases e:b=2
 .subst e
  go_in
  go_wp2;go_ret;refine⟨_,_,R,Xb (Xb Rf _) _,λi a=>?_⟩;simp[Yj.tg]at a
  match i,a with
  |0,_=>exact⟨_,_,R,⟨sP,sP⟩,by simp[Yj.tg]⟩
  |1,_=>exact⟨_,_,R,⟨sP,sP⟩,by simp[Yj.tg]⟩
 have e1:(b==1)=Sn:=by simp[d]
 have e2:(b==2)=Sn:=by simp[e]
 have h:(Yj.tg ⟨b,l,tg,k⟩)=[]:=by simp[Yj.tg,d,e]
 rw[h]
 go_in
 go_wp2;go_ret;exact⟨_,_,R,Xb (Xb Rf _) _,λi a=>Sz a sP⟩
def To(b a x:I):Bool:=Jd (b<=x)&&Jd (x<a)
theorem Ep{a tg b}:Zu t T z ⟨1,a,tg,b⟩=(a==0&&To T z tg&&b==0):=by simp[Zu,Tp,To]
theorem ES{a tg b}:Zu t T z ⟨2,a,tg,b⟩=(To 0 t a&&To T z tg&&To T z b):=by simp[Zu,Tp,To]
theorem EO{a tg b}:Zu t T z ⟨3,a,tg,b⟩=(To 0 t a&&tg==0&&b==0):=by simp[Zu,Tp,To]
theorem ug{k a tg b}(h:¬(1<=k/\k<=3)):Zu t T z ⟨k,a,tg,b⟩=Sn:=by
 unfold Zu;by_cases c:1<=k;·rw[dJ (p:=k<=3) O];simp
 rw[dJ (p:=1<=k) c];simp
theorem XY{b:Type}{p:b->Bool}{a}(c:n<J a)(h:(a.take n).all p=So)(d:p a[n]=So):(a.take<|n+1).all p=So:=by rw[X7 c,sS,h];simp[d]
theorem JN{a:Type}{p:a->Bool}{xs}(b:k<J xs)(c:p xs[k]=Sn):xs.all p=Sn:=by rw[lZ];exact⟨_,aH b,by simp[c]⟩
theorem YE{a:Type}{p:a->Bool}{xs}(b:J xs<=k)(h:(xs.take k).all p=So):xs.all p=So:=by rwa[aW b]at h
theorem zW6b0{p: Prop}(h: p := by
  go_in
  go_wp2_with (go_at_call 89;refine(ZO ⟨_,_,_,_⟩ _).mono ?_;rintro l x⟨s,c,rfl,g,b⟩;rw[Xw m]at b |-;have j:=Y b;clear b)
  go_loop [10] (λi=>∃k:N,k<=J a/\i=H k/\Q ((a.take k).all (To low e)=So)) λi=>J a-(intOf i).toNat
  .exact⟨0,aN,R,R⟩
  case round=>
   obtain⟨k,u,rfl,f⟩:=hrel;by_cases d:k<J a
   .obtain⟨y,B,rfl,_,n⟩:=j k d;by_cases o:low<=a[k]/\a[k]<e
    .let⟨p,q⟩:=o;go_wp2
     go_round
     .exact⟨k+1,O,gM,XY d f<|by simp[To,p,q]⟩
     simp[intOf];omega
    go_wp2
    all_goals
     go_ret;exact⟨Xl (by rw[<-h.o];exact(JN d<|by unfold To;rw[jD,fC,fC];omega).symm),Xg (Xb (Below.refl _ _) _) g⟩
   go_wp2;go_ret
   exact⟨Xl (by rw[<-h.o];exact(YE O f).symm),Xg (Xb (Below.refl _ _) _) g⟩): p := h
theorem Kj{tg v low e}(a)(m:Q ((Yj.mk t T tg z).tg=a))(K:J a<=2)(L:1<=t)(F:t<=3)(c1:Q (t=1->T=0/\z=0))(c3:Q (t=3->tg=0/\z=0))(c2:Q (t≠1->0<=T/\T<v))(h:Q (a.all (To low e)=r)):
 Sk prog 86 #[Sa #[H t,H T,H tg,H z],H v,H low,H e] w λl C=>l=Rt (Sb r)/\Sw (Z w.1) w C:=by
 have n:t=1\/t=2\/t=3:=O;have M:=Y K;obtain rfl|rfl|rfl:=n
 .obtain⟨rfl,rfl⟩:=c1 R;exact zW6b0
 .let⟨d1,d2⟩:=c2 vY;exact zW6b0
 let⟨d1,d2⟩:=c2 vY;obtain⟨rfl,rfl⟩:=c3 R
 go_in
 go_wp2_with (go_at_call 89;refine(ZO ⟨_,_,_,_⟩ _).mono ?_;rintro l x⟨s,c,rfl,g,b⟩;rw[Xw m]at b |-;have j:=Y b;clear b)
 go_loop [10] (λi=>∃k:N,k<=J a/\i=H k/\Q ((a.take k).all (To low e)=So)) λi=>J a-(JB i).toNat
 .exact⟨0,aN,R,R⟩
 obtain⟨k,u,rfl,f⟩:=hrel;by_cases d:k<J a
 .have:=m.o;simp[Yj.tg]at this;subst this;simp at d
 go_wp2;go_ret;exact⟨Xl (by rw[<-h.o];exact(YE O f).symm),Xg (Xb Rf _) g⟩
theorem zW6b1{p: Prop}(h: p := by
  go_in
  go_wp2;go_ret
  exact⟨R,Xb (Below.refl _ _) _⟩): p := h
theorem zW6b2{p: Prop}(h: p := by
  go_in
  go_wp2
  all_goals
   go_ret
   exact⟨R,Xb (Below.refl _ _) _⟩): p := h
theorem Ju{tg n low e}(h:¬(1<=t/\t<=3)\/(t=1/\¬(T=0/\z=0))\/(t=3/\¬(tg=0/\z=0))\/(1<=t/\t<=3/\t≠1/\¬(0<=T/\T<n))):
 Sk prog 86 #[Sa #[H t,H T,H tg,H z],H n,H low,H e] w λf i=>f=Rt (Sb Sn)/\Sw (Z w.1) w i:=by
 by_cases c:1<=t/\t<=3
 .have g:t=1\/t=2\/t=3:=O;obtain rfl|rfl|rfl:=g
  .have a:¬(T=0/\z=0):=O;by_cases b:T=0
   .subst b;have d:(z != 0)=So:=by simp at a;simp[a]
    exact zW6b1
   have d:(T != 0)=So:=by simp[b]
   exact zW6b1
  .have a:T<0\/n<=T:=O;exact zW6b2
  by_cases a:tg=0/\z=0
  .obtain⟨rfl,rfl⟩:=a;have a:T<0\/n<=T:=O;exact zW6b2
  clear h c;by_cases b:tg=0
  .subst b;have d:(z != 0)=So:=by simp at a;simp[a]
   exact zW6b1
  have d:(tg != 0)=So:=by simp[b]
  exact zW6b1
 have a:t<1\/3<t:=O;exact zW6b2
theorem KS{tg n low b}:
 Sk prog 86 #[Sa #[H t,H T,H tg,H z],H n,H low,H b] w λe g=>e=Rt (Sb (Zu n low b ⟨t,T,tg,z⟩))/\Sw (Z w.1) w g:=by
 by_cases d:1<=t/\t<=3
 .have f:t=1\/t=2\/t=3:=O;obtain rfl|rfl|rfl:=f
  .rw[Ep];by_cases h:T=0/\z=0;·exact Kj [tg] R sP vY vY (λ_=>h) (λe=>O) (λe=>Sz R e) (by obtain⟨rfl,rfl⟩:=h;show _=_;simp)
   have e:(T==0&&To low b tg&&z==0)=Sn:=by
    by_cases a:T=0
    .have:z≠0:=λe=>h ⟨a,e⟩;simp[this]
    simp[a]
   rw[e];exact Ju<|aZ (bC ⟨R,h⟩)
  .rw[ES];by_cases h:0<=T/\T<n;·exact Kj [tg,z] R sP vY vY (λe=>O) (λe=>O) (λ_=>h) (by show _=_;simp[To,h.1,h.2])
   have e:To 0 n T=Sn:=by unfold To;rw[jD,fC,fC];omega
   rw[e];exact Ju O
  rw[EO];by_cases h:0<=T/\T<n
  .by_cases c:tg=0/\z=0;·exact Kj [] R sP vY vY (λe=>O) (λ_=>c) (λ_=>h) (by obtain⟨rfl,rfl⟩:=c;show _=_;simp[To,h.1,h.2])
   have e:(To 0 n T&&tg==0&&z==0)=Sn:=by
    by_cases a:tg=0
    .have:z≠0:=λe=>c ⟨a,e⟩;simp[this]
    simp[a]
   rw[e];exact Ju O
  have e:To 0 n T=Sn:=by unfold To;rw[jD,fC,fC];omega
  rw[e];exact Ju O
 rw[ug d];exact Ju<|bC d
section
variable {P:Program}{w:World}{ops:Array Oper}{rest:List Oper}{o:Oper}{a:Act}{Q_:Exit->Act->World->Prop}{s x:Operand}{t e base size bytes n m c g:N}{z v:Value}{xs news:List Value}{ad:Addr}{f:N×N}
theorem YB(b:(P.info? e).map (λi=>(i.8,i.3,i.4))=S (S z,size,bytes))(hown:Sx w base e size v n xs)(hn:∀j u,news[j]?=S u->E w (ad.add j)=S u)(h1:∀u∈news,u.oneCell'=So)(h:Q (∀v' w',Sx w' base e size v' (n+m) (xs++news)->w.grownBy w' v.ownBlock->(v'=X U 0 0↔v=X U 0 0/\m=0)->(v'.ownBlock=v.ownBlock\/v'.ownBlock=S (Z w.heap))->wpList P ops Q_ rest (a.put o.dst v') w'))(hg:o.guard=U:=by rfl)(ho:o.op=.call {callee:=.builtin .append,args:=#[s,x],argTypes:=#[t,t]}:=by exact rfl)(es:a.eval s=v:=by exact rfl)(ex:a.eval x=X (S ad) m c:=by exact rfl)(hl:J news=m*size:=by rfl)(hb:(n+m)*bytes<=140737488355328:=by first|omega|(dsimp only;omega))(hs:base<=Z w.heap:=by first|omega|(simp;omega)|simp)(ht:P.underlying t=S (.slice e):=by kernel_rfl)(hz:Z z.cells=size:=by rfl)(hp:0<size/\0<bytes:=by decide):wpList P ops Q_ (o::rest) a w:=by
 obtain⟨i,i1,i2,i3,i4⟩:=fX b
 have k:n+m<=maxLen:=by
  have:=Nat.le_mul_of_pos_right (n+m) hp.2;unfold maxLen;omega
 exact bT w hg s x t ho base e i z size bytes ht i1 i2 i3 i4 hz hp.1 v n xs es hown ad m c news ex hl hn h1 k hb hs h
theorem YC(b:(P.info? e).map (λi=>(i.8,i.3,i.4))=S (S z,size,bytes))(hown:Sx w base e size v n xs)(h:Q (∀v' w',Sx w' base e size v' (n+1) (xs++news)->(D w (Sc news.toArray m f)).grownBy w' v.ownBlock->(v'=X U 0 0↔v=X U 0 0/\1=0)->(v'.ownBlock=v.ownBlock\/v'.ownBlock=S (Z (D w (Sc news.toArray m f)).heap))->wpList P ops Q_ rest (a.put o.dst v') w'))(hb:(n+1)*bytes<=140737488355328:=by first|omega|(dsimp only;omega))(hs:base<=Z w.heap:=by first|omega|(simp;omega)|simp)(hl:J news=1*size:=by rfl)(hg:o.guard=U:=by rfl)(ho:o.op=.call {callee:=.builtin .append,args:=#[s,x],argTypes:=#[t,t]}:=by exact rfl)(es:a.eval s=v:=by exact rfl)(ex:a.eval x=X (S ⟨g,0,U⟩) 1 1:=by exact rfl)(eg:g=Z w.heap:=by first|rfl|simp)(h1:(news.all λu=>u.oneCell')=So:=by rfl)(ht:P.underlying t=S (.slice e):=by kernel_rfl)(hz:Z z.cells=size:=by rfl)(hp:0<size/\0<bytes:=by decide):wpList P ops Q_ (o::rest) a (D w (Sc news.toArray m f)):=by
 subst eg;exact YB b (hown.alloc _) (XE (l9 _ _)) (List.all_eq_true.1 h1) h hg ho es ex hl hb (by simp;omega) ht hz hp
end
def Cg(a:Wc)(x:I):Bool:=a.contains x
theorem qu(c x)(ha:Q (Xf w m k p l))(r:Q (n=J l))(z:n<=100000000):
 Sk prog 88 #[X p n c,H x] w λe t=>e=Rt (Sb (Cg l x))/\t=w:=by
 go_in
 go_wp2
 go_loop [5] (λi=>∃a:N,a<=n/\i=H a/\Q (∀j (h:j<J l),j<a->l[j]≠x)) λi=>n-(JB i).toNat
 .exact⟨0,aN,R,λj d h=>Sz h O⟩
 obtain⟨a,v,rfl,q⟩:=hrel;by_cases y:a<n
 .have o:a<J l:=oN r.o;obtain⟨u,C,rfl,_,g⟩:=ha a o;by_cases b:l[a]=x
  .have s:(l[a]==x)=So:=by simp[b]
   have f:=Y b;go_wp2;go_ret;exact⟨Xl (by unfold Cg;rw[nJ,eY,<-f.o];exact aH o),R⟩
  have s:(l[a]==x)=Sn:=by simp[b]
  have f:=Y b;go_wp2
  go_round
  .exact⟨a+1,O,gM,λj d h=>if e:j=a then by subst e;exact f else q j d O⟩
  simp[JB];omega
 go_wp2;go_ret
 exact⟨Xl (by rw[nJ,lY];intro g;let⟨j,d,e⟩:=bR (eY.1<|show l.contains x=So from g);exact q j d (oN r.o) e),R⟩
theorem YF(b c x a L B w)(ha:Q (Xf w L B b a))(d:Q (n=J a))(g:n<=1048576):
 Sk prog 88 #[X b n c,H x] w λe f=>e=Rt (Sb (Cg a x))/\f=w :=
 qu c x ha d O
theorem Bi(t:Yj)(b):t.tg.contains b=So↔(t.1=1/\t.3=b)\/(t.1=2/\(t.3=b\/t.4=b)):=by
 unfold Yj.tg;by_cases a:t.1=1
 .rw[aU a];simp only[a,true_and,eY,cS];constructor;·intro h;exact bC h.symm
  rintro(h|⟨h,_⟩);·exact h.symm
  omega
 rw[aM a];by_cases c:t.1=2
 .rw[aU c];simp only[c,true_and,eY,cH,eA,lL];constructor
  .rintro(h|h);·exact aZ<|bC h.symm
   exact aZ<|aZ h.symm
  rintro(⟨h,_⟩|h|h);·omega
  .exact bC h.symm
  exact aZ h.symm
 rw[aM c];simp[a,c]
theorem ZK(x:Xe)(b):∀(a:Wi)(i:N),AQ (a++[x]) i b=AQ a i b++(if x.3.tg.contains b then [((i+J a:N):I)]else [])
 |[],i=>by simp[AQ]
 |y::ys,i=>by simp only[cW,AQ];have e:i+1+J ys=i+(J ys+1):=O;rw[ZK x b ys<|i+1,cK,e,bA]
theorem YO(b):∀(a:Wi)(i:N),J (AQ a i b)<=J a
 |[],_=>aA
 |y::ys,i=>by simp only[AQ,aQ,bA];have:=YO b ys<|i+1;split<;>simp<;>omega
theorem Xk{xs:Wc}(h:Sx w n m 1 a k (xs.map<|Si S6)):∃e c,a=X e (J xs) c/\Xf w n (Z w.1) e xs:=by
 obtain⟨d,h|⟨o,r,l,rfl,p,g,s,_,q,j⟩⟩:=h
 .obtain⟨rfl,rfl⟩:=h;have:xs=[]:=by simpa using d
  subst this;exact⟨_,_,R,λi b=>Sz b sP⟩
 simp only[iN,bK]at d q j;subst d;refine⟨_,_,R,λi b=>⟨o,0,R,⟨p,?_⟩,?_⟩⟩;·exact(aS.1 g).1
 have f:(l.1.take (J xs))[i]?=S (H xs[i]):=by rw[j];simp[b]
 rw[fH b]at f;simp only[World.cell?,g,aV];simpa using f
theorem YJ(c:w.grownBy v a.ownBlock)(d:Sx w n m k a B y){b}(f:b<n)(e:b<Z w.1):v.1[b]?=w.1[b]? :=
 c.5 b e λh=>by have:=(d.lt b h.symm).1;omega
theorem Xy(h:Sw n w v)(b:v.grownBy u a.ownBlock)(d:Sx v m k B a g y)(i:n<=m)(e:n<=Z v.1):Sw n w u :=
 h.grown b e λf c=>by have:=(d.lt f c).1;omega
theorem K5(w:Ub)(o):Sx (D (D w o) (Sc #[] 2)) (Z w.1+1) 2 1 (X (S ⟨Z w.1+1,0,U⟩) 0 0) 0 []:=by have h:=eI (base:=Z w.1+1) (e:=2) (size:=1) (D w o) #[] 0 sP sP R;rw[aO]at h;exact h
theorem Yl:(l++[t]).map (Si S6)=l.map (Si S6)++[H t]:=sP
theorem ZE(V c q)(ha:Q (Xp w m k p x))(F:Q (n=J x))(hn:n<=1048576)(L:k<=Z w.1):
 Sk prog 68 #[Sa #[H V,X p n c],H q] w λl y=>∃z M,l=Rt (X z (J (AQ x 0 q)) M)/\Sw (Z w.1) w y/\Xf y (Z w.1) (Z y.1) z (AQ x 0 q):=by
 go_in
 go_wp2
 go_loopw [5,6] (λv u wr=>∃a:N,a<=n/\u=H a/\Sw (Z w.1) w wr/\Z w.1<Z wr.1/\E wr (A (Z w.1) 1)=S (X p n c)/\Sx wr (Z w.1+1) 2 1 v (J (AQ (x.take a) 0 q)) ((AQ (x.take a) 0 q).map (Si S6))) λ_ u _=>n-(JB u).toNat
 .exact⟨0,aN,R,Xb (Xb Rf _) _,SB,sP,K5 _ _⟩
 obtain⟨a,hk,rfl,i,K,B,g⟩:=hrel;by_cases aa:a<n
 .have t:a<J x:=oN F.o
  obtain⟨Y_,ac,rfl,⟨_,Z_⟩,P⟩:=ha a t;let⟨pa,pc,ia,ic,_,_,⟨e2,e3,e4,e5⟩,_,_⟩:=P.keep (i.mono L) O;have f:Q (AQ (x.take<|a+1) 0 q=AQ (x.take a) 0 q++(if x[a].3.tg.contains q then [(a:I)]else [])):=by show _=_;rw[X7 t,ZK];simp[jZ<|dU t]
  have ab:J (AQ (x.take a) 0 q)<=1048576:=by have:=YO q (x.take a) 0;simp at this;omega
  have d:=Y g;have h:=Y<|Bi x[a].3 q;generalize x[a]=e at*;by_cases b:e.3.tg.contains q=So
  .have j:Q (AQ (x.take<|a+1) 0 q=AQ (x.take a) 0 q++[(a:I)]):=by have:=f.o;rw[aU b]at this;exact this
   have o:=h.1 b;generalize AQ (x.take a) 0 q=T at*;have r:(e.3.1=1/\e.3.3=q)\/(e.3.1=2/\e.3.3=q)\/(e.3.1=2/\e.3.3≠q/\e.3.4=q):=O;obtain⟨d1,d2⟩|⟨d1,d2⟩|⟨d1,d3,d2⟩:=r
   all_goals
    go_wp2_with (at_builtin;refine YC RH (d.alloc _) ?_)
    intro v1 w1 C s _ _;have W:=Y C;go_wp2;have K_:=Xy (Xb (Xb i _) _) s ((d.alloc _).alloc _) O SB;have L_:=YJ s ((d.alloc _).alloc _) (b:=Z w.1) O SB;have O_:=s.4;simp at O_;exact⟨⟨a+1,O,gM,K_,O,G (Xc L_) (oB (Xb (Xb (dC (Z wr.1) wr) _) _) B K),by rw[j.o,Yl];simpa using W.o⟩,SA⟩
  have j:Q (AQ (x.take<|a+1) 0 q=AQ (x.take a) 0 q):=by have:=f.o;rw[aM b,fF]at this;exact this
  have o:¬((e.3.1=1/\e.3.3=q)\/(e.3.1=2/\(e.3.3=q\/e.3.4=q))):=λI_=>b<|h.2 I_
  generalize AQ (x.take a) 0 q=T at*;have r:(e.3.1=1/\(e.3.3==q)=Sn)\/(e.3.1=2/\(e.3.3==q)=Sn/\(e.3.4==q)=Sn)\/((e.3.1==1)=Sn/\(e.3.1==2)=Sn):=by simp only[iS];omega
  obtain⟨d1,d2⟩|⟨d1,d2,d3⟩|⟨d1,d2⟩:=r
  all_goals
   go_wp2;exact⟨⟨a+1,O,gM,Xb i _,SB,oB (Xb (dC (Z wr.1) wr) _) B K,by rw[j.o];exact d.alloc _⟩,SA⟩
 go_wp2;go_ret;have l:=aW (l:=x) (i:=a) (oN F.o);rw[l]at g;obtain⟨W_,c1,rfl,N_⟩:=Xk g;exact⟨_,_,R,i,N_.mono O<|aA⟩
structure Mv where
 to:I
 frm:I
abbrev Wy:=List Mv
def an(L:Wy)(r:I):Bool:=L.any λm=>m.2==r
theorem yV{L}:an L t=So↔∃m∈L,m.2=t:=by simp[an]
def bj:List I->Option I
 |[]=>U
 |x::xs=>match bj xs with
  |none=>S x
  |some y=>S<|if x<y then x else y
theorem lj:bj l=U↔l=[]:=by
 cases l with
 |nil=>simp[bj]
 |cons x l=>
  simp only[bj];cases bj l<;>simp
theorem mq:∀{b:Wc}{y:I},bj b=S y->y∈b/\∀x∈b,y<=x
 |[],y,h=>by cases h
 |x::b,y,h=>by
  simp only[bj]at h;cases hl:bj b with
  |none=>
   rw[hl]at h;have e:=lj.1 hl;subst e;cases h;simp
  |some z=>
   rw[hl]at h;let⟨d,c⟩:=mq hl;simp only[Option.some.injEq]at h;split at h
   .subst h
    rename_i f;exact⟨cI,λu a=>by
     obtain rfl|a:=cH.1 a;·exact zP _
     have:=c u a;omega⟩
   subst h
   rename_i f;exact⟨cN _ d,λu a=>by
    obtain rfl|a:=cH.1 a;·omega
    exact c u a⟩
theorem pF(a:t∈l)(d:∀x∈l,t<=x):bj l=S t:=by
 cases h:bj l with
 |none=>rw[lj.1 h]at a;cases a
 |some z=>
  let⟨b,c⟩:=mq h;have e:=d z b;have f:=c t a;rw[show z=t by omega]
def ai(L:Wy):Wc:=L.map (·.1)
def fo(L:Wy):Wc:=(ai L).filter λt=>!an L t
def N3(m:Mv):Yg:=if m.2<0 then ⟨13,m.1,0,0,0⟩else ⟨11,m.1,m.2,0,0⟩
def pz(L:Wy)(t:I):I:=((L.find? λm=>m.1==t).map (·.2)).getD 0
def ff(L:Wy)(t:I):Wy:=L.filter λm=>m.1 != t
def scratch(L:Wy)(r:I):Wy:=L.map λm=>if m.2=r then ⟨m.1,-1⟩else m
def dm(L:List Mv):Yg×List Mv:=match bj (fo L)with
 |some t=>(N3 ⟨t,pz L t⟩,ff L t)
 |none=>match bj (ai L)with
  |some r=>(⟨12,0,r,0,0⟩,scratch L r)
  |none=>(⟨0,0,0,0,0⟩,[])
def ax:N->List Mv->List Yg
 |0,_=>[]
 |_+1,[]=>[]
 |k+1,m::L=>(dm (m::L)).1::ax k (dm (m::L)).2
theorem py:ax n []=[]:=by cases n<;>rfl
theorem px(k){L:Wy}(h:L≠[]):ax (k+1) L=(dm L).1::ax k (dm L).2:=by
 cases L with
 |nil=>exact Sz R h
 |cons m L=>rfl
theorem oC:∀(k:N)(L:Wy),J (ax k L)<=k
 |0,_=>aA
 |_+1,[]=>aN
 |k+1,m::L=>by have:=oC k (dm (m::L)).2;simp only[ax,bA];omega
structure b9(L:Wy):Prop where
 nd:(ai L).Nodup
 to:∀m∈L,0<=m.1/\m.1<64
 frm:∀m∈L,m.2=-1\/(0<=m.2/\m.2<64)
 ne:∀m∈L,m.2≠m.1
def dg(L:Wy):N:=J L+J (L.filter λm=>Jd (0<=m.2))
theorem b9.nil:b9 []:=⟨by simp[ai],sP,sP,sP⟩
theorem b9.without{L}(h:b9 L)(t):b9 (ff L t):=by refine⟨?_,λm a=>h.2 m (fG.1 a).1,λm a=>h.3 m (fG.1 a).1,λm a=>h.4 m (fG.1 a).1⟩;exact h.1.sublist<|List.filter_sublist.map _
theorem GL{L}:ai (scratch L t)=ai L:=by unfold ai scratch;rw[jO];refine gH λm _=>?_;show(if m.2=t then (⟨m.1,-1⟩:Mv)else m).1=m.1;split<;>rfl
theorem b9.scratch{L:Wy}(h:b9 L)(r:I):b9 (scratch L r):=by
 have c:∀m∈Go.Proofs.YtcncjgijikoapaaGreatDoor.scratch L r,∃q∈L,m=(if q.2=r then ⟨q.1,-1⟩else q):=λm a=>by obtain⟨q,hq,e⟩:=aY.1 a;exact⟨q,hq,e.symm⟩
 refine⟨by rw[GL];exact h.1,λm a=>?_,λm a=>?_,λm a=>?_⟩<;>obtain⟨q,hq,rfl⟩:=c m a;·have:=h.2 q hq;split<;>exact this
 .split;·exact bC R
  exact h.3 q hq
 have d:=h.2 q hq;have b:=h.4 q hq;split;·show(-1:I)≠q.1;omega
 exact b
theorem b9.step{L}(h:b9 L):b9 (dm L).2:=by
 unfold dm;split;·exact h.without _
 split;·exact h.scratch _
 exact b9.nil
theorem GE{L}(b:t∈ai L):dg (ff L t)<dg L:=by
 unfold dg ff;have c:J (L.filter λm=>m.1 != t)<J L:=by refine List.length_filter_lt_length_iff_exists.2 ?_;let⟨m,a,e⟩:=aY.1 b;exact⟨m,a,by simp[e]⟩
 have d:J ((L.filter λm=>m.1 != t).filter λm=>Jd (0<=m.2))<=J (L.filter λm=>Jd (0<=m.2)):=(List.filter_sublist.filter _).length_le;omega
theorem GD(n:0<=t):∀{L:Wy},an L t=So->dg (scratch L t)<dg L:=by
 have j:∀L:Wy,J ((scratch L t).filter λm=>Jd (0<=m.2))<=J (L.filter λm=>Jd (0<=m.2))/\(an L t=So->J ((scratch L t).filter λm=>Jd (0<=m.2))<J (L.filter λm=>Jd (0<=m.2))):=λL=>by
  induction L with
  |nil=>simp[scratch,an]
  |cons m L i=>
   let⟨h,d⟩:=i;have e:scratch (m::L) t=(if m.2=t then ⟨m.1,-1⟩else m)::scratch L t:=R;have g:an (m::L) t=(m.2==t||an L t):=R;rw[e,g];by_cases c:m.2=t
   .rw[aU c];have:(Jd (0<=m.2))=So:=SB
    rw[sk (p:=λm:Mv=>Jd (0<=m.2)) sP,sC (p:=λm:Mv=>Jd (0<=m.2)) this];simp only[bA];exact⟨O,λ_=>O⟩
   rw[aM c];have f:(m.2==t)=Sn:=by simpa using c
   rw[f,jV];by_cases a:Jd (0<=m.2)=So
   .rw[sC (p:=λm:Mv=>Jd (0<=m.2)) a,sC (p:=λm:Mv=>Jd (0<=m.2)) a];simp only[bA];exact⟨O,λb=>by have:=d b;omega⟩
   rw[sk (p:=λm:Mv=>Jd (0<=m.2)) a,sk (p:=λm:Mv=>Jd (0<=m.2)) a];exact⟨h,d⟩
 intro L b;have k:=(j L).2 b;unfold dg;have l:J (scratch L t)=J L:=by simp[scratch]
 omega
theorem oE{L}:t∈fo L↔t∈ai L/\an L t=Sn:=by simp[fo]
theorem xK{L}(h:b9 L)(e:L≠[]):dg (dm L).2<dg L:=by
 unfold dm;split
 .rename_i t g;exact GE (oE.1 (mq g).1).1
 rename_i c;split
 .rename_i r a
  let⟨b,_⟩:=mq a;have f:an L r=So:=by
   cases hb:an L r with
   |true=>rfl
   |false=>
    have:r∈fo L:=oE.2 ⟨b,hb⟩;rw[lj.1 c]at this;cases this
  let⟨m,d,i⟩:=aY.1 b;exact GD (oN<|(h.2 m d).1) f
 rename_i a;have:=lj.1 a;exact Sz (List.map_eq_nil_iff.1 this) e
theorem pw:∀(k:N){L:Wy},b9 L->dg L<=k->ax k L=ax (dg L) L
 |0,L,_,hk=>by rw[show dg L=0 by omega]
 |k+1,L,h,hk=>by
  by_cases a:L=[];·subst a;rw[py,py]
  have d:=xK h a;let⟨j,b⟩:∃j,dg L=j+1:=⟨dg L-1,O⟩;rw[b,px k a,px j a,pw k h.step O];by_cases c:dg (dm L).2<=j
  .by_cases f:j<=k
   .have:=pw j h.step c;rw[this]
   have e:j=k:=O;rw[e,pw k h.step O]
  omega
theorem If{L}(h:b9 L)(a:L≠[]):ax (dg L) L=(dm L).1::ax (dg (dm L).2) (dm L).2:=by have c:=xK h a;let⟨j,b⟩:∃j,dg L=j+1:=⟨dg L-1,O⟩;rw[b,px j a,pw j h.step O]
def ly(a:Wy)(m:Mv):Bool:=Jd (0<=m.1/\m.1<64/\0<=m.2/\m.2<64)&&!a.any λq=>q.1==m.1
def gy:List Mv->List Mv->Bool
 |_,[]=>So
 |pre,m::r=>ly pre m&&gy (pre++[m]) r
def bw(L:Wy):Bool:=Jd (J L<=64)&&gy [] L
def bu(L:Wy):Wy:=L.filter λm=>m.1 != m.2
def dp(L:Wy):Vr:=if bw L=So then ax (2*J (bu L)) (bu L)else []
structure iP(L:Wy):Prop where
 nd:(ai L).Nodup
 rng:∀m∈L,0<=m.1/\m.1<64/\0<=m.2/\m.2<64
theorem iP.snoc{L}(h:iP L){m}(b:ly L m=So):iP (L++[m]):=by
 simp only[ly,bY,bD,lV]at b;let⟨c,d⟩:=b;refine⟨?_,λq hq=>?_⟩
 .unfold ai;rw[bG,gW];refine⟨h.1,sP,λf ha g a=>?_⟩;simp only[eH,fZ,cS]at a;subst a;intro e;subst e;let⟨q,hq,e⟩:=aY.1 ha;have:=List.any_eq_false.1 d q hq;simp[e]at this
 obtain hq|hq:=bU.1 hq;·exact h.2 q hq
 rw[cS.1 hq];exact c
theorem xN:∀(r a:Wy),iP a->gy a r=So->iP (a++r)
 |[],a,h,_=>by rw[fF];exact h
 |m::r,a,h,hg=>by simp only[gy,bY]at hg;have:=xN r (a++[m]) (h.snoc hg.1) hg.2;simpa using this
theorem iP.start{L}(h:iP L):b9 (bu L)/\dg (bu L)=2*J (bu L):=by
 have b:∀m∈bu L,m∈L/\m.1≠m.2:=λm a=>by simpa [bu]using a
 refine⟨⟨h.1.sublist<|List.filter_sublist.map _,λm a=>?_,λm a=>?_,λm a=>?_⟩,?_⟩;·have:=h.2 m (b m a).1;omega
 .have:=h.2 m (b m a).1;omega
 .exact λe=>(b m a).2 e.symm
 unfold dg;rw[List.filter_eq_self.2 λm a=>by have:=h.2 m (b m a).1;simp;omega];omega
theorem rK{L}(h:bw L=So):J L<=64/\iP L:=by simp only[bw,bY,bD]at h;exact⟨h.1,by simpa using xN L [] ⟨by simp[ai],sP⟩ h.2⟩
def gj(w:Ub)(L B:N)(c:Uy)(a:Wy):Prop:=∀i (h:i<J a),∃b o,c=S ⟨b,o,U⟩/\(L<=b/\b<B)/\E w ⟨b,o+i*2,U⟩=S (Si S6 a[i].1)/\E w ⟨b,o+i*2+1,U⟩=S (Si S6 a[i].2)
theorem xZ{a:Wy}(h:n<J a):gy (a.take n) (a.drop n)=(ly (a.take n) a[n]&&gy (a.take<|n+1) (a.drop<|n+1)):=by rw[gZ h,gy,kJ,aC h];rfl
def Xh(W:Wk)(x:N):Bool:=(W<|x/64).testBit (x%64)
def YH(W:Wk)(x:N):Wk:=λi=>if i=x/64 then W i|||2^(x%64)else W i
def XA(W:Wk):Prop:=∀i,W i<18446744073709551616
theorem Z3:Xh (λ_=>0) n=Sn:=by simp[Xh]
theorem Z8:Xh (YH f n) m=(Jd (m=n)||Xh f m):=by
 unfold Xh YH;by_cases h:m/64=n/64
 .rw[aU h,Nat.testBit_or,nE];by_cases e:n%64=m%64
  .have:m=n:=O;simp[this]
  have:¬m=n:=λa=>e (by rw[a]);simp[this,e]
 rw[aM h];have:¬m=n:=λa=>h (by rw[a]);simp[this]
theorem oV(h:XA f)(x):XA (YH f x):=λi=>by
 unfold YH;split;·exact Nat.or_lt_two_pow (n:=64) (h i) (lB vY<|dS _ vY)
 exact h i
def NT(a b T:Wk)(i:N):N:=(b i&&&(18446744073709551615-T i))&&&(18446744073709551615-a i)
def NR(a b T:Wk)(i:N):N:=a i|||NT a b T i
theorem qA(ha:n<18446744073709551616)(a:m<64):(18446744073709551615-n).testBit m=!n.testBit m:=by have:=Nat.testBit_two_pow_sub_succ (n:=64) (x:=n) ha m;rw[show 18446744073709551615-n=2^64-(n+1) by omega,this];simp[a]
theorem WU{O_}(b:XA f)(c:XA F)(i)(a:n<64):(NT f O_ F i).testBit n=((O_ i).testBit n&&!(F i).testBit n&&!(f i).testBit n):=by unfold NT;rw[jW,jW,qA (c i) a,qA (b i) a]
theorem WR{S_ T}(a:XA f)(i):NT S_ f T i<18446744073709551616:=iC (aJ jB jB) (a i)
theorem q8{T}(b:XA f)(a:XA F):XA (NR f F T):=λi=>Nat.or_lt_two_pow (n:=64) (b i) (WR a i)
theorem vD{T}(a:XA f)(b:XA T)(x):Xh (NR f F T) x=(Xh f x||(Xh F x&&!Xh T x)):=by unfold Xh NR;rw[Nat.testBit_or,WU a b _<|dS _ vY];cases (f<|x/64).testBit (x%64)<;>simp
theorem CF{T}(e:XA f)(d:XA F)(g:XA T)(i)(h:NT f F T i≠0):∃x,x/64=i/\Xh F x=So/\Xh T x=Sn/\Xh f x=Sn:=by
 let⟨t,a⟩:=Nat.exists_testBit_of_ne_zero h;have c:t<64:=by
  obtain b|b:=mL t 64;·exact b
  have:=Nat.testBit_lt_two_pow<|aX (WR (S_:=f) (T:=T) d i) (IJ vY b:2^64<=2^t);rw[this]at a;cases a
 rw[WU e g _ c]at a;simp only[bY,lV]at a;refine⟨64*i+t,O,?_,?_,?_⟩;·unfold Xh;rw[show(64*i+t)/64=i by omega,show(64*i+t)%64=t by omega];exact a.1.1
 .unfold Xh;rw[show(64*i+t)/64=i by omega,show(64*i+t)%64=t by omega];exact a.1.2
 unfold Xh;rw[show(64*i+t)/64=i by omega,show(64*i+t)%64=t by omega];exact a.2
theorem Cn{T}(c:XA f)(d:XA T)(h:NT f F T (n/64)=0)(a:Xh F n=So)(b:Xh T n=Sn):Xh f n=So:=by
 have:=WU (O_:=F) c d (n/64) (dS n<|show 0<64 by decide);rw[h,Nat.zero_testBit]at this;unfold Xh at*;rw[a,b]at this;cases hs:(f<|n/64).testBit (n%64)with
 |true=>rfl
 |false=>rw[hs]at this;cases this
def Ix(a b T:Wk)(K:N):Bool:=(Rg K).any λi=>NT a b T i != 0
theorem AK{T}:Ix f F T 0=Sn:=R
theorem AL(a b T K):Ix a b T (K+1)=(Ix a b T K||(NT a b T K != 0)):=by unfold Ix;rw[dN,List.any_append];simp
theorem DV{T}(c:XA f)(b:XA F)(d:XA T)(h:Ix f F T n=So):∃x,x<64*n/\Xh F x=So/\Xh T x=Sn/\Xh f x=Sn:=by let⟨i,e,g⟩:=List.any_eq_true.1 h;let⟨x,j,a⟩:=CF c b d i (by simpa using g);have:=bE.1 e;exact⟨x,O,a⟩
theorem Eh{T}(c:XA f)(d:XA T)(h:Ix f F T n=Sn)(e:m<64*n)(a:Xh F m=So)(b:Xh T m=Sn):Xh f m=So:=by refine Cn c d ?_ a b;have:=List.any_eq_false.1 h (m/64) (bE.2 O);simpa using this
def E2(W:Wk)(a:Wa):Wk:=a.foldl YH W
theorem VW{W}(h:n<J s):E2 W (s.take<|n+1)=YH (E2 W<|s.take n) s[n]:=by unfold E2;rw[bN h,dT];rfl
theorem Zs:∀(a:Wa){W:Wk},XA W->XA (E2 W a)
 |[],_,h=>h
 |t::a,_,h=>Zs a<|oV h t
theorem YR:∀(a:Wa)(W:Wk)(y:N),Xh (E2 W a) y=(Jd (y∈a)||Xh W y)
 |[],W,y=>by simp[E2]
 |t::a,W,y=>by
  show Xh (E2 (YH W t) a) y=_;rw[YR a,Z8];by_cases b:y=t;·simp[b]
  by_cases c:y∈a<;>simp[b,c]
theorem AM{b}(h:r=b):Rt (Sb r)=Rt (Sb b):=by rw[h]
theorem rh(x:N):(x:I).tdiv 64=((x/64:N):I):=by rw[fY O];omega
theorem rg(x:N):(x:I).tmod 64=((x%64:N):I):=by rw[eW O];omega
theorem ux(b:n<18446744073709551616):(bits .and .u64 ((n:I)/2^m) 1==1)=n.testBit m:=by
 have hq:n/2^m<18446744073709551616:=iC (Nat.div_le_self _ _) b;have e:((n:I)/2^m)=((n/2^m:N):I):=sP;rw[e,show(1:I)=((1:N):I)from R,jH _ _ hq vY,Nat.and_one_is_mod,Nat.testBit_eq_decide_div_mod_eq];by_cases h:n/2^m%2=1;·simp[h]
 have a:n/2^m%2=0:=O;simp[a]
theorem tZ(c:m<64)(b:n<18446744073709551616):bits .or .u64 (n:I) (IntKind.u64.wrap<|2^m)=((n|||2^m:N):I):=by
 have a:2^m<18446744073709551616:=aX (lB vY c) vY;have e:IntKind.u64.wrap (2^m)=((2^m:N):I):=by rw[iV];have:((2^m:N):I)=(2:I)^m:=sP;rw[<-this];exact mB (kF _) (Int.ofNat_lt.2 a)
 rw[e,u64_or_nat _ _ b a]
section
structure Cp(w:Ub)(g K C:N)(W:Wk):Prop where
 le:K<=C
 ex:∃T:Vu,w.rowIs g 173 C λi=>if i<K then Si .u64 (W i)else T i
namespace Cp
variable {w: Ub} {g K C: N} {W W': N -> N}
theorem lt(h:Cp w g K C W):g<Z w.1:=by let⟨_,T,h⟩:=h;exact h.lt
theorem cell(h:Cp w g K C W){i:N}(a:i<K):E w (A g i)=S (Si .u64 (W i)):=by let⟨b,T,h⟩:=h;have:=h.cell (i:=i) O;rwa[aU a]at this
theorem frozen(h:Cp w g K C W)(i:N):w.frozen? (A g i)=Sn:=by let⟨_,T,h⟩:=h;exact h.frozen i
theorem congr(h:Cp w g K C W)(e:∀i,i<K->W i=W' i):Cp w g K C W':=by
 let⟨b,T,h⟩:=h;refine⟨b,T,h.congr λi _=>?_⟩;by_cases a:i<K;·rw[aU a,aU a,e i a]
 rw[aM a,aM a]
theorem of_block{a:Ub}(h:Cp w g K C W)(e:a.1[g]?=w.1[g]?):Cp a g K C W:=by let⟨b,T,h⟩:=h;exact⟨b,T,h.of_block e⟩
theorem set(h:Cp w g K C W)(i v:N)(b:i<K):Cp (Se w ⟨g,i,U⟩ (Si .u64 (v:I))) g K C (λj=>if j=i then v else W j):=by
 let⟨a,T,h⟩:=h;refine⟨a,T,(h.set i _).congr λj _=>?_⟩;by_cases e:j=i;·rw[aU e,aU O,aU e]
 rw[aM e,aM e]
theorem setOther(h:Cp w g K C W){a:Addr}(ha:g≠a.1)(v:Uj):Cp (Se w a v) g K C W:=by let⟨b,T,h⟩:=h;exact⟨b,T,h.setOther ha v⟩
theorem alloc(h:Cp w g K C W)(o:Obj):Cp (D w o) g K C W:=by let⟨a,T,h⟩:=h;exact⟨a,T,h.alloc o⟩
theorem drew(h:Cp w g K C W):Cp w.drew g K C W:=by let⟨a,T,h⟩:=h;exact⟨a,T,h.drew⟩
theorem of_row(h:w.rowIs g 173 K λi=>Si .u64 (W i)):Cp w g K K W :=
 ⟨aA,λ_=>Si .u64 0,h.congr λi a=>by rw[aU a]⟩
theorem to_row(h:Cp w g K K W):w.rowIs g 173 K (λi=>Si .u64 (W i)):=by let⟨_,T,h⟩:=h;exact h.congr λi a=>by rw[aU a]
theorem of_own{c:N}{v:Uj}{a:Wa}(h:Sx w c 173 1 v (J a) (a.map λx:N=>Si .u64 (x:I)))(p:v≠X U 0 0):∃g C,v=X (S ⟨g,0,U⟩) (J a) C/\c<=g/\Cp w g (J a) C (λi=>a.getD i 0):=by
 obtain⟨o,h|⟨g,k,b,rfl,m,n,l,_,f,j⟩⟩:=h;·exact Sz h.1 p
 simp only[iN]at o f j;refine⟨g,k,R,m,l,λi=>b[i]?.getD (Si .u64 0),b,n,f,λi q=>?_⟩;show b[i]?=S (if i<J a then Si .u64 ((a.getD i 0:N):I)else b[i]?.getD (Si .u64 0));by_cases e:i<J a
 .rw[aU e];have d:(b.1.take (J a))[i]?=S (Si .u64 (a[i]:N)):=by rw[j];simp[e]
  rw[fH e]at d;have e2:a.getD i 0=a[i]:=by simp[e]
  rw[e2];simpa using d
 rw[aM e];have:i<Z b:=O;simp[this]
end Cp
end
theorem AT{b a}:
 Sk prog 48 #[Sa #[H t,H T,H z,H b,H a]] w λe c=>e=Rt (Sb (Wu ⟨t,T,z,b,a⟩))/\Sw (Z w.1) w c:=by
 go_in
 go_wp2
 all_goals
  go_ret;refine⟨Xl ?_,Xb Rf _⟩
  first|(simp[Wu, *];done)|(simp[Wu, *];omega)
def Uw(w:Ub):Prop:=1 < Z w.1/\∀k:N,1<=k->k<=13->∃s,E w ⟨1,k*5,U⟩=S (Sg s)/\E w ⟨1,k*5+1,U⟩=S (Sb (dB k))/\E w ⟨1,k*5+2,U⟩=S (Sb (aB k)) /\
 E w ⟨1,k*5+3,U⟩=S (Sb (bB k))/\∃i,E w ⟨1,k*5+4,U⟩=S (Sb i)
def T7(w:Ub):Prop:=0 < Z w.1/\∀k:N,1<=k->k<=3->∃s,E w ⟨0,k*4,U⟩=S (Sg s)/\E w ⟨0,k*4+1,U⟩=S (Sb ((k:I) != 1))/\E w ⟨0,k*4+2,U⟩=S (Sb ((k:I) != 3)) /\
 E w ⟨0,k*4+3,U⟩=S (Sb ((k:I)==2))
theorem Uw.keep{w':Ub}(h:Uw w)(k:Sw (Z w.1) w w'):Uw w':=by refine⟨aX h.1 k.4,λi a b=>?_⟩;have e:=λo=>Xc (o:=o) (k.5 1 h.1);let⟨s,c0,c1,c2,c3,j,c4⟩:=h.2 i a b;exact⟨s,G (e _) c0,G (e _) c1,G (e _) c2,G (e _) c3,j,G (e _) c4⟩
theorem T7.keep{w':Ub}(h:T7 w)(k:Sw (Z w.1) w w'):T7 w':=by refine⟨aX h.1 k.4,λi a b=>?_⟩;have e:=λo=>Xc (o:=o) (k.5 0 h.1);let⟨s,c0,c1,c2,c3⟩:=h.2 i a b;exact⟨s,G (e _) c0,G (e _) c1,G (e _) c2,G (e _) c3⟩
theorem AB(a e c d f n b)(z:b<=13)(l:Q (Uw w)):
 Sk prog 21 #[Sa #[H a,H e,H c,H d,H f],H b,H n] w λg v=>g=Rt (Sb (Yw n b ⟨a,e,c,d,f⟩))/\Sw (Z w.1) w v:=by
 by_cases j:1<=a/\a<=b
 .let⟨i,q⟩:=j
  obtain⟨k,rfl⟩:=bX (show 0<=a by omega);have K:=l.1;let⟨C,c0,c1,c2,c3,B,c4⟩:=l.2 k O O;have s:Q (Yw n b ⟨k,e,c,d,f⟩=(Tp (dB k) e 0 n&&Tp (aB k) c 0 n&&Tp (bB k) d 0 n&&Wu ⟨k,e,c,d,f⟩)):=by show _=_;unfold Yw;rw[eB i,eB q];simp
  generalize dB k=F at*;generalize aB k=L at*;generalize bB k=M at*;have y:(k:I)<=13:=O
  go_in
  go_wp2_with (first|(go_at_call 47;refine YU Yp λp o=>?_;rw[o];clear o p)|(go_at_call 48;refine YU AT λp t=>?_))
  all_goals
   go_ret;refine⟨Xl ?_,?_⟩;·rw[s.o];simp[*]
   first|exact Xg (Xb (Xb Rf _) _) t|exact Xb (Xb Rf _) _
 have u:∃r,r=Yw n b ⟨a,e,c,d,f⟩/\r=Sn:=⟨_,R,by
  unfold Yw;by_cases i:1<=a;·rw[dJ (p:=a<=b) O];simp
  rw[dJ (p:=1<=a) i];simp⟩
 obtain⟨r,m,rfl⟩:=u;rw[<-m];clear m;have h:a<1\/(1<=a/\b<a):=O;clear j;obtain h|⟨h,x⟩:=h
 all_goals
  go_in
  go_wp2
  all_goals
   go_ret;exact⟨R,Xb Rf _⟩
theorem TI{b a n}(c:Q (Uw w)):
 Sk prog 21 #[Sa #[H t,H T,H z,H b,H a],H 10,H n] w λe d=>e=Rt (Sb (Yw n 10 ⟨t,T,z,b,a⟩))/\Sw (Z w.1) w d :=
 AB t T z b a n 10 vY c
theorem Kn{tg n low a}(b:Q (T7 w)):
 Sk prog 20 #[Sa #[H t,H T,H tg,H z],H n,H low,H a] w λe l=>e=Rt (Sb (Zu n low a ⟨t,T,tg,z⟩))/\Sw (Z w.1) w l:=by
 by_cases h:1<=t/\t<=3
 .let⟨f,g⟩:=h
  obtain⟨k,rfl⟩:=bX (show 0<=t by omega);have p:=b.1;let⟨s,c0,c1,c2,c3⟩:=b.2 k O O;have i:Q (Zu n low a ⟨k,T,tg,z⟩=(Tp ((k:I) != 1) T 0 n&&Tp ((k:I) != 3) tg low a&&Tp ((k:I)==2) z low a)):=by show _=_;unfold Zu;rw[eB f,eB g];simp
  generalize ((k:I) != 1)=q at*;generalize ((k:I) != 3)=v at*;generalize ((k:I)==2)=u at*
  go_in
  go_wp2_with (go_at_call 47;refine YU Yp λm d=>?_;rw[d];clear d m)
  all_goals
   go_ret;refine⟨Xl ?_,?_⟩;·rw[i.o];simp[*]
   exact Xb (Xb Rf _) _
 have j:∃r,r=Zu n low a ⟨t,T,tg,z⟩/\r=Sn:=⟨_,R,ug h⟩;obtain⟨r,c,rfl⟩:=j;rw[<-c];clear c;have o:t<1\/3<t:=O;clear h
 go_in
 go_wp2
 all_goals
  go_ret;exact⟨R,Xb Rf _⟩
theorem J4(t:Yj)(w:Ub):
 Sk prog 36 #[Sa #[H t.1,H t.a,H t.3,H t.4]] w λj f=>∃g c,j=Rt (X g (J t.tg) c)/\Sw (Z w.1) w f/\Xf f (Z w.1) (Z f.1) g t.tg:=by
 let⟨b,l,tg,k⟩:=t;by_cases d:b=1
 .subst d
  go_in
  go_wp2;go_ret;refine⟨_,_,R,Xb (Xb Rf _) _,λi a=>?_⟩;simp[Yj.tg]at a;subst a;exact⟨_,_,R,⟨sP,sP⟩,by simp[Yj.tg]⟩
 by_cases e:b=2
 .subst e
  go_in
  go_wp2;go_ret;refine⟨_,_,R,Xb (Xb Rf _) _,λi a=>?_⟩;simp[Yj.tg]at a
  match i,a with
  |0,_=>exact⟨_,_,R,⟨sP,sP⟩,by simp[Yj.tg]⟩
  |1,_=>exact⟨_,_,R,⟨sP,sP⟩,by simp[Yj.tg]⟩
 have e1:(b==1)=Sn:=by simp[d]
 have e2:(b==2)=Sn:=by simp[e]
 have h:(Yj.tg ⟨b,l,tg,k⟩)=[]:=by simp[Yj.tg,d,e]
 rw[h]
 go_in
 go_wp2;go_ret;exact⟨_,_,R,Xb Rf _,λi a=>Sz a sP⟩
def K8(l:Wn):ByteArray:=⟨l.toArray⟩
def bz(a:I):Wn :=
 if a=1 then [99,111,110,115,116]else if a=2 then [97,114,103]else if a=3 then [97,100,100]else if a=4 then [115,117,98]else if a=5 then [109,117,108]
 else if a=6 then [100,105,118]else if a=7 then [108,101,115,115]else if a=8 then [108,111,97,100]else if a=9 then [115,116,111,114,101]else if a=11 then [109,111,118,101]else if a=12 then [112,117,116]else if a=13 then [103,101,116]else [111,117,116]
end Go.Proofs.YtcncjgijikoapaaGreatDoor
