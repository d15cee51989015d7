import Derived.Test.YthgmkangeikilaaGreatDoorRA1
import Derived.Test.YthgmkangeikilaaGreatDoorW5b
namespace Go.Proofs.YthgmkangeikilaaGreatDoor
set_option maxHeartbeats 40000000
set_option maxRecDepth 100000
open _root_ renaming Array.size->Z,List.length->J,Nat->N,Int->I,rfl->R,Option.some->S,Bool.true->So,Bool.false->Sn,Option.none->U,absurd->Sz,trivial->JV
open Go renaming World.cell?->E,World.setCell->Se,Ending.returned->Rt,RowKit.Below->Sw,Calls->Sk,World.alloc->D,IntKind.i64->S6,Obj.cells->Sc,RowKit.intOf->JB,World.ownsRow->Sx,results->JC
open Value renaming slice->X,agg->Sa,string->Sg,int->Si,bool->Sb,tuple->St,pointer->Sj
open Go.RowKit Go.Proofs.Tryz Go.Shelf
variable{r:Bool}{t T:I}{n m k B g i j c:N}{w v u:Ub}{a A_:Uj}{p P:Uy}{h:Vu}{l:Wc}{x:Wi}{y:Wo}
def fv(a:I):Wn:=(Kz a).1.1
def qb(x:Yg)(c:UInt8)(v:I):Yg:=if c=100 then ⟨x.1,v,x.a,x.b,x.5⟩else if c=97 then ⟨x.1,x.2,v,x.b,x.5⟩else if c=98 then ⟨x.1,x.2,x.a,v,x.5⟩else if c=105 then ⟨x.1,x.2,x.a,x.b,v⟩else x
def sZ(a:I)(c:UInt8)(f:Wn):I:=if a=1/\c=105 then i9 f else Gb f
def ND(b:List (List UInt8))(a:I):N->Yg
 |0=>⟨a,0,0,0,0⟩
 |k+1=>qb (ND b a k) ((fv a).getD k 0) (sZ a ((fv a).getD k 0) (b.getD (k+1) []))
def T1(a:Vw):Yg:=ND a (D2<|a.headD []) (J (fv<|D2 (a.headD [])))
def Y4(a:Vw):Yj :=
 if a.headD []=fg then ⟨1,0,Gb<|a.getD 1 [],0⟩else if a.headD []=ew then ⟨3,Gb<|a.getD 1 [],0,0⟩else ⟨2,Gb<|a.getD 1 [],Gb<|a.getD 2 [],Gb<|a.getD 3 []⟩
theorem Y2:
 Sk prog 38 #[H t,H T] w λe a=>e=Rt (Sa #[H t,H T,H 0,Hq])/\Sw (Z w.1) w a:=by
 go_in
 go_wp2;refine YL (v:=Sa #[H t,H T,H 0,Hq]) ⟨R,Xb Rf _⟩
theorem yF{d f1:Wn}(x:d=fg\/d=ew)(ha:Q (Zx w n m p<|KC [d,f1]))(L:m<=Z w.1):
 Sk prog 44 #[X p 2 c] w λg K=>g=Rt (Sa #[H (Y4 [d,f1]).1,H (Y4 [d,f1]).a,H (Y4 [d,f1]).3,H (Y4 [d,f1]).4])/\Sw (Z w.1) w K:=by
 obtain⟨f,o,rfl,M,c0⟩:=ha 0 (by simp[KC]);let⟨B,P,t,_,c1⟩:=ha 1 (by simp[KC]);cases t;have c0:Cl w f o (Sg (K8 d)):=c0;have c1:Cl w f (o+1) (Sg (K8 f1)):=c1;have s:f<Z w.1:=O;have r:=λw=>Y<|j9 f1 w;have F:=T4 d;obtain rfl|rfl:=x
 .have u:(fg==[106,117,109,112])=So:=R
  go_in
  go_wp2_with fail
  refine YU (r _) λb a=>?_;have h:=a.4;simp at h;have z:=oB a (G ((Xb (dC (Z w.1) w) _).cell (p:=A f o) s) c0) SB;have e:=Y<|Xg (Xb (dC (Z w.1) w) _) a;have i:Cl b (Z w.1) 0 (H 0):=G (a.cell (p:=A (Z w.1) 0) sP) sP;have j:Cl b (Z w.1) 1 (H 0):=G (a.cell (p:=A (Z w.1) 1) sP) sP;have k:Cl b (Z w.1) 2 (H 0):=G (a.cell (p:=A (Z w.1) 2) sP) sP;have l:Cl b (Z w.1) 3 (H 0):=G (a.cell (p:=A (Z w.1) 3) sP) sP;have v:∀q,b.frozen? (A (Z w.1) q)=Sn:=λq=>G (a.frozen (p:=A (Z w.1) q) sP) sP;have y:Z w.1<Z b.1:=O;go_wp2;refine YL (v:=Sa #[H 1,H 0,H<|Gb f1,H 0]) ⟨R,?_⟩
  first|exact e|exact((((e.setCell (p:=A (Z w.1) 0) aA _).setCell (p:=A (Z w.1) 1) aA _).setCell (p:=A (Z w.1) 2) aA _).setCell (p:=A (Z w.1) 3) aA _)
 have u:(ew==[106,117,109,112])=Sn:=R;have C:(ew==[114,101,116])=So:=R
 go_in
 go_wp2_with fail
 refine YU (r _) λb a=>?_;have h:=a.4;simp at h;have z:=oB a (G ((Xb (dC (Z w.1) w) _).cell (p:=A f o) s) c0) SB;have e:=Y<|Xg (Xb (dC (Z w.1) w) _) a;have i:Cl b (Z w.1) 0 (H 0):=G (a.cell (p:=A (Z w.1) 0) sP) sP;have j:Cl b (Z w.1) 1 (H 0):=G (a.cell (p:=A (Z w.1) 1) sP) sP;have k:Cl b (Z w.1) 2 (H 0):=G (a.cell (p:=A (Z w.1) 2) sP) sP;have l:Cl b (Z w.1) 3 (H 0):=G (a.cell (p:=A (Z w.1) 3) sP) sP;have v:∀q,b.frozen? (A (Z w.1) q)=Sn:=λq=>G (a.frozen (p:=A (Z w.1) q) sP) sP;have y:Z w.1<Z b.1:=O;go_wp2;refine YL (v:=Sa #[H 3,H<|Gb f1,H 0,H 0]) ⟨R,?_⟩
 first|exact e|exact((((e.setCell (p:=A (Z w.1) 0) aA _).setCell (p:=A (Z w.1) 1) aA _).setCell (p:=A (Z w.1) 2) aA _).setCell (p:=A (Z w.1) 3) aA _)
theorem Kg{f1 f2 f3:Wn}(ha:Q (Zx w n m p<|KC [Vn,f1,f2,f3]))(hB:m<=Z w.1):
 Sk prog 44 #[X p 4 c] w λe f=>e=Rt (Sa #[H 2,H<|Gb f1,H<|Gb f2,H<|Gb f3])/\Sw (Z w.1) w f:=by
 obtain⟨d,o,rfl,hb,c0⟩:=ha 0 (by simp[KC]);let⟨x,B,i,_,c1⟩:=ha 1 (by simp[KC]);cases i;let⟨x,B,i,_,c2⟩:=ha 2 (by simp[KC]);cases i;let⟨x,B,i,_,c3⟩:=ha 3 (by simp[KC]);cases i;have c0:Cl w d o (Sg (K8 Vn)):=c0;have c1:Cl w d (o+1) (Sg (K8 f1)):=c1;have V:Q (E w (A d<|o+2)=S (Sg (K8 f2))):=Y c2;have K:Q (E w (A d<|o+3)=S (Sg (K8 f3))):=Y c3;clear c2 c3;have P:d<Z w.1:=O;have L:=λw=>Y<|j9 f1 w;have M_:=λw=>Y<|j9 f2 w;have N_:=λw=>Y<|j9 f3 w;have ab:=T4 Vn;have Y_:(Vn==[106,117,109,112])=Sn:=R;have Z_:(Vn==[114,101,116])=Sn:=R
 go_in
 go_wp2_with fail
 refine YU (L _) λa g=>?_;have Q_:=g.4;simp at Q_;have r:=λq=>oB g ((Xb (dC (Z w.1) w) _).cell (p:=A d q) P) SB
 have k0:=G (r _) c0;have R_:=G (r _) V;have S_:=G (r _) K;have H_:=Y<|Xg (Xb (dC (Z w.1) w) _) g;have l:Q (∀q,q<4->E a (A (Z w.1) q)=S (H 0)):=Y (λq hq=>G (g.cell (p:=A (Z w.1) q) sP) (by have:q=0\/q=1\/q=2\/q=3:=O;obtain rfl|rfl|rfl|rfl:=this<;>simp))
 have E_:Q (∀q,a.frozen? (A (Z w.1) q)=Sn):=Y λq=>G (g.frozen (p:=A (Z w.1) q) sP) sP;have h:Z w.1<Z a.1:=O;have z:d<Z a.1:=O;clear g c0 c1 r;have aa:∀(W:Ub)(F t:N)(C:Uj),E (Se W (A (Z w.1) F) C) (A d t)=E W (A d t):=λW F t C=>cJ<|by intro j;injection j with h1;omega
 have s:Q (∀W,Sw (Z a.1) a W->Q (Sw (Z a.1) a W)/\E W (A d<|o+2)=S (Sg (K8 f2))/\E W (A d<|o+3)=S (Sg (K8 f3))/\(E W (A (Z w.1) 0)=S (H 0)/\E W (A (Z w.1) 1)=S (H 0)/\E W (A (Z w.1) 2)=S (H 0)/\E W (A (Z w.1) 3)=S (H 0))/\(∀q,W.frozen? (A (Z w.1) q)=Sn)/\Z w.1<Z W.1):=Y (λW b=>
  ⟨Y b,oB b R_ z,oB b S_ z,⟨oB b (l 0 vY) h,oB b (l 1 vY) h,oB b (l 2 vY) h,oB b (l 3 vY) h⟩,λq=>G (b.frozen (p:=A (Z w.1) q) h) (E_ q),aX h b.4⟩)
 have v:Q (∀W,Sw (Z a.1) a W->Sk prog 41 #[Sg (K8 f2)] W λe f=>e=Rt (H<|Gb f2)/\Sw (Z a.1) a f):=Y (λW b=>(M_ W).mono (by rintro e f⟨rfl,j⟩;exact⟨R,b.trans<|j.mono b.4⟩));have O_:Q (∀W,Sw (Z a.1) a W->Sk prog 41 #[Sg (K8 f3)] W λe f=>e=Rt (H<|Gb f3)/\Sw (Z a.1) a f):=Y (λW b=>(N_ W).mono (by rintro e f⟨rfl,j⟩;exact⟨R,b.trans<|j.mono b.4⟩));have F_:Q (Sw (Z a.1) a a):=Y<|Rf;have G_:Q (Sw (Z a.1) a a.drew):=Y (Rf).drew;go_wp2_with fail
 go_region_held3 (λf=>E f (A d<|o+2)=S (Sg (K8 f2))/\E f (A d<|o+3)=S (Sg (K8 f3))) (go_keep)
  (first
   |(go_at_call 41;with_reducible refine YU (v.o a F_.o) λM k=>?_;let⟨u,s1,s2,s3,s4,s5⟩:=s.o _ k;clear k)
   |(go_at_call 41;with_reducible refine YU (v.o a.drew G_.o) λM k=>?_;let⟨u,s1,s2,s3,s4,s5⟩:=s.o _ k;clear k)
   |(go_at_call 41;with_reducible refine YU (O_.o M u.o) λw3 y=>?_;let⟨I_,v1,v2,⟨T,U_,V_,X_⟩,v4,v5⟩:=s.o _ y;clear y))
 all_goals
  go_wp2;refine YL (v:=Sa #[H 2,H<|Gb f1,H<|Gb f2,H<|Gb f3]) ⟨R,?_⟩;exact(((((H_.trans<|I_.mono O).setCell (p:=A (Z w.1) 0) aA _).setCell (p:=A (Z w.1) 1) aA _).setCell (p:=A (Z w.1) 2) aA _).setCell (p:=A (Z w.1) 3) aA _)
theorem IU(a f c L B w)(ha:Q (Zx w L B f<|KC a))(e:B<=Z w.1)(h:(a.headD []=fg/\J a=2)\/(a.headD []=ew/\J a=2)\/(a.headD []=Vn/\J a=4)):
 Sk prog 44 #[X f (J a) c] w λg i=>g=Rt (Sa #[H (Y4 a).1,H (Y4 a).a,H (Y4 a).3,H (Y4 a).4])/\Sw (Z w.1) w i:=by
 obtain⟨d,h2⟩|⟨d,h2⟩|⟨d,h2⟩:=h
 .obtain⟨b,f1,rfl⟩:∃b f1,a=[b,f1]:=by
   match a,h2 with
   |[b,f1],_=>exact⟨b,f1,R⟩
  exact yF (bC d) ha e
 .obtain⟨b,f1,rfl⟩:∃b f1,a=[b,f1]:=by
   match a,h2 with
   |[b,f1],_=>exact⟨b,f1,R⟩
  exact yF (aZ d) ha e
 obtain⟨b,f1,f2,f3,rfl⟩:∃b f1 f2 f3,a=[b,f1,f2,f3]:=by
  match a,h2 with
  |[b,f1,f2,f3],_=>exact⟨b,f1,f2,f3,R⟩
 have d:b=Vn:=d;subst d;exact Kg ha e
theorem KI(h:1<=t/\t<=10):∀c∈fv t,c=100\/c=97\/c=98\/c=105:=by have a:t=1\/t=2\/t=3\/t=4\/t=5\/t=6\/t=7\/t=8\/t=9\/t=10:=O;obtain rfl|rfl|rfl|rfl|rfl|rfl|rfl|rfl|rfl|rfl:=a<;>decide
theorem Mt(h:(fv 1).getD n 0=105):n=1:=by
 match n,h with
 |0,h=>exact Sz h vY
 |1,_=>rfl
 |n+2,h=>exact Sz h<|by simp[fv,Kz]
theorem zN(b:Vw)(a):∀k,(ND b a k).1=a
 |0=>R
 |k+1=>by
  rw[ND];have:=zN b a k;unfold qb
  repeat' split
  all_goals exact this
structure O3(w:Ub)(X_:N)(x:Yg)(W:Ub):Prop where
 below:Sw (Z w.1) w W
 ins:Jk W X_ 0 x
 fx:∀q,W.frozen? ⟨X_,q,U⟩=Sn
 res:∀q,q<5->E W ⟨Z w.1,q,U⟩=S (Si S6 0)
 fr:∀q,W.frozen? ⟨Z w.1,q,U⟩=Sn
 lt:X_<Z W.1
 wx:Z w.1<X_
theorem O3.next{x}(h:O3 w n x v)(k:Sw (Z v.1) v u):O3 w n x u:=by have a:=h.6;have b:=h.7;exact⟨Xg h.1 k,h.2.keepS<|k.5 n a,λq=>G (k.frozen (p:=A n q) a) (h.3 q),λq hq=>oB k (h.4 q hq) O,λq=>G (k.frozen (p:=A (Z w.1) q) (by show Z w.1<_;omega)) (h.5 q),aX a k.4,b⟩
theorem O3.put{x y}(h:O3 w n x v)(c:Jk (Se v ⟨n,m,U⟩ a) n 0 y):O3 w n y (Se v ⟨n,m,U⟩ a):=by have b:=h.7;exact⟨h.1.setCell (p:=A n m) (by show Z w.1<=n;omega) _,c,λq=>by rw[eX];exact h.3 q,λq hq=>by rw[cJ<|by intro e;injection e with e1;omega];exact h.4 q hq,λq=>by rw[eX];exact h.5 q,by rw[Xd];exact h.6,b⟩
theorem IM{b}(o c_ aj w){F:Wn}(ha:Q (Zx w aj m (S ⟨n,o,U⟩) (KC b)))(a1:n<m)(hB:m<=Z w.1)(C:0<J b)(y:Q (b.headD []=F))(ar:1<=D2 F/\D2 F<=10)(hl:Q (J b=1+(Kz<|D2 F).size))(ap:Q (D2 F=1->∀B,b[2]?=S B->NM B=So)):
 Sk prog 45 #[Hm n o (J b) c_] w λf w'=>f=Rt (Sa #[H (T1 b).1,H (T1 b).2,H (T1 b).a,H (T1 b).b,H (T1 b).5])/\Sw (Z w.1) w w':=by
 have r:∀i (h:i<J b),E w (A n<|o+i)=S (Sg (K8 b[i])):=λi h=>by let⟨b',o',f,hb,hc⟩:=ha i (by simpa [KC]using h);cases f;exact G hc<|by simp[KC]
 have c0:Cl w n o (Sg (K8 F)):=G (r 0 C) (by rw[<-y.o];cases b with|nil=>simp at C|cons x a4=>rfl);have S_:=Y r;have Z_:=λw=>Y<|yZ F w;have af:=λw=>Y<|qX (D2 F) w;have ao:n<Z w.1:=O;clear r
 go_in
 go_wp2_with fail
 refine YU (Z_ _) λe g=>?_;have az:=g.4;simp at az;have t:Z w.1<Z e.1:=O;have v:=Y<|Xg (Xb (dC (Z w.1) w) _) g;have c:Q (∀q,q<5->E e (A (Z w.1) q)=S (H 0)):=Y (λq hq=>G (g.cell (p:=A (Z w.1) q) sP) (by have:q=0\/q=1\/q=2\/q=3\/q=4:=O;obtain rfl|rfl|rfl|rfl|rfl:=this<;>simp))
 have z:Q (∀q,e.frozen? (A (Z w.1) q)=Sn):=Y λq=>G (g.frozen (p:=A (Z w.1) q) sP) sP;clear g;have ad:=Y<|q7 (D2 F);generalize M:D2 F=a at*;go_wp2_with (go_at_call 85;refine YU (af _) λP L=>?_;rw[L];clear L P)
 have K:O3 w (Z e.1) (ND b a 0) (D e<|Sc #[H a,H 0,H 0,H 0,H 0] 62):=by have p:=Xb (dC (Z e.1) e) (Sc #[H a,H 0,H 0,H 0,H 0] 62);refine⟨Xg v p,?_,λq=>sP,λq hq=>oB p (c q hq) t,λq=>G (p.frozen (p:=A (Z w.1) q) t) (z q),sP,t⟩;refine⟨?_,?_,?_,?_,?_⟩<;>simp[ND]
 have ac:=Y K;have a2:=ad.o;have aa:Q (T1 b=ND b a (Kz a).size):=Y (by unfold T1;rw[y.o,M];rfl);have W_:=Y<|KI ar;clear K v c z c0 M;generalize Z e.1=al at*;generalize D e _=W2 at*;go_wp2
 go_loopw [5] (λi wr=>∃k:N,k<=(Kz a).size/\i=H k/\Q (O3 w al (ND b a k) wr)) λi _=>(Kz a).size-(JB i).toNat
 .exact⟨0,aN,R,ac⟩
 obtain⟨k,hk,rfl,d⟩:=hrel;let⟨i0,i1,i2,i3,i4⟩:=d.2;have lt:=d.6;have wx:=d.7;by_cases T:k<(Kz a).size
 .have s:k+1<J b:=oN hl.o;have aq:(k:I)<((Kz a).size:I):=O;have cg:=oB d.1 (S_ (k+1) s) ao;have V:b.getD (k+1) []=b[k+1]:=by simp[List.getD,s]
  have W:k<J (fv a):=by unfold fv;rw[Array.length_toList];exact T
  have V_:Q (∀(h:k<(Kz a).size),((((Kz a)[k]'h).toNat:I))=(((fv a).getD k 0).toNat:I)):=Y (λh=>by simp[List.getD,W];rfl);have X_:Q (ND b a (k+1)=qb (ND b a k) ((fv a).getD k 0) (sZ a ((fv a).getD k 0) b[k+1])):=Y (by rw[ND,V]);have T_:Q (a=1->(fv a).getD k 0=105->NM b[k+1]=So):=Y (λe1 e2=>by subst e1;have:=Mt e2;subst this;exact ap R _<|aC s)
  have hm:=W_ ((fv a).getD k 0) (by simp[List.getD,W]);have M_:=zN b a k;clear V;generalize b[k+1]=P_ at*;generalize (fv a).getD k 0=cl at*;generalize N_:ND b a k=x at*;have a0:=Y N_;clear N_;have j:(x.1==1)=So/\(a=1)=True\/(x.1==1)=Sn/\(a=1)=False:=by
   rw[M_];by_cases h:a=1;·exact bC ⟨iA.2 h,eq_true h⟩
   exact aZ ⟨iS.2 h,eq_false h⟩
  clear M_;obtain⟨hx1,j⟩|⟨hx1,j⟩:=j<;>obtain rfl|rfl|rfl|rfl:=hm
  all_goals
   have g:=V_ T;have u:=X_.o;simp only[UInt8.reduceToNat,IV]at g;simp[qb,sZ,j]at u;have Y_:=Y u;have Q_:=Y j;clear u j;go_wp2_with ((first|(go_at_call 41;refine(j9 P_ _).mono ?_)|(go_at_call 87;refine(IT<|T_ (of_eq_true Q_) R).mono ?_));rintro f P⟨rfl,D_⟩;have l:=d.next D_;let⟨j0,j1,j2,j3,j4⟩:=l.2;have jf:=l.3;have jl:=l.6;have U_:=Y l;clear l D_)
   go_wp2;exact⟨⟨k+1,O,gM,Y (by rw[Y_.o];refine U_.put ⟨?_,?_,?_,?_,?_⟩<;>first|exact fQ _ _ _ (by assumption)|exact G (cJ<|by intro f;injection f with _ e2;omega) (by assumption))⟩,SA⟩
 have G_:k=(Kz a).size:=O;have ab:Q (T1 b=ND b a k):=Y (by rw[aa.o,G_]);have r0:=d.4 0 vY;have r1:=d.4 1 vY;have r2:=d.4 2 vY;have r3:=d.4 3 vY;have r4:=d.4 4 vY;have fr:=d.5;have R_:=Y d.1;have aq:¬((k:I)<((Kz a).size:I)):=O;clear G_;generalize ND b a k=x at*;have a3:Z w.1<Z wr.1:=O;go_wp2;rw[ab.o];refine YL (v:=Sa #[H x.1,H x.2,H x.a,H x.b,H x.5]) ⟨R,?_⟩;exact(((((R_.setCell (p:=A (Z w.1) 0) aA _).setCell (p:=A (Z w.1) 1) aA _).setCell (p:=A (Z w.1) 2) aA _).setCell (p:=A (Z w.1) 3) aA _).setCell (p:=A (Z w.1) 4) aA _)
section
theorem pX{w:Ub}{b e s g n c:N}{a:Wo}(h:Sx w b e s (Hl g n c) n a){j}(d:j<J a):E w (A g j)=S a[j]:=by have:=h.cells (g:=g) R j a[j] sP;rw[ja]at this;exact this
theorem ki{w1 w2:Ub}{a e s g d n h c i:N}{b l:Wo}(f:Sx w1 a e s (Hl g n c) n b)(k:Sx w2 a e s (Hl d h i) h (b++l)){j}(m:j<n*s):E w2 (A d j)=E w1 (A g j):=by have o:=f.1;rw[pX f O,pX k (by rw[aQ];omega),fA O]
theorem pY{w2:Ub}{e g s c n d f:N}{b a:Wo}(i:J b=n*s)(h:Sx w2 e g s (Hl c d f) d (b++a)){j}(k:j<J a):E w2 (A c<|n*s+j)=S a[j]:=by rw[pX h (by rw[aQ];omega),fN O];simp[i]
theorem oS{w:Ub}{a e s g n c:N}{b:Wo}(h:Sx w a e s (X (S ⟨g,0,U⟩) n c) n b)(k)(v:Uj):∃d,Sx (Se w ⟨g,k,U⟩ v) a e s (X (S ⟨g,0,U⟩) n c) n d:=by
 obtain⟨e2,_⟩|⟨g',cap,cur,e2,hb,hh,h1,h2,h3,h4⟩:=h.2;·cases e2
 injection e2 with e3 _ e5
 injection e3 with e3;injection e3 with e4;subst e4 e5;have f:(Se w (A g k) v).1[g]?=S (Sc (cur.setIfInBounds k v) e (0,0)):=by simp only[World.setCell,Array.getElem?_modify,hh];simp
 refine⟨(cur.setIfInBounds k v).1.take (n*s),?_,aZ ⟨g,c,_,R,hb,f,h1,h2,by simpa using h3,R⟩⟩;have:n*s<=Z cur:=h3▸jI _ h1;simp;omega
structure ii(w:Ub)(H_:N)(pa:Uy)(pc:N)(ps:Za):Prop where
 own:∃cs,Sx w H_ 83 2 (X pa (J ps) pc) (J ps) cs
 at_:∀i (h:i<J ps),∃g a c,pa=S ⟨g,0,U⟩/\E w ⟨g,i*2,U⟩=S (Si S6 ps[i].1)/\E w ⟨g,i*2+1,U⟩=S (X a (J ps[i].2) c) /\
  ∀j (hj:j<J ps[i].2),∃b o,a=S ⟨b,o,U⟩/\(H_<=b/\b<Z w.1)/\b≠g/\E w ⟨b,o+j,U⟩=S (Si S6 ps[i].2[j])
theorem ii.nil(w H_):ii w H_ U 0 []:=⟨⟨[],dA⟩,λi h=>Sz h sP⟩
theorem ii.phs{w H_ pa pc ps}(h:ii w H_ pa pc ps):Jw w H_ (Z w.1) pa ps:=λo m=>by let⟨g,a,c,e,d,f,i⟩:=h.2 o m;let⟨r,l⟩:=h.1;subst e;refine⟨g,0,R,l.lt g R,a,c,by rw[aV];exact d,by rw[aV];exact f,λp n=>?_⟩;let⟨b,q,e,j,_,k⟩:=i p n;exact⟨b,q,e,j,k⟩
theorem ii.keep{w w' H_ pa pc ps}(h:ii w H_ pa pc ps)(k:YA H_ (Z w.1) w w')(x:Z w.1<=Z w'.1):ii w' H_ pa pc ps:=by let⟨j,a⟩:=h.1;refine⟨⟨j,Zl a λb e=>k b (a.lt b e).1 (a.lt b e).2⟩,λt p=>?_⟩;let⟨g,i,c,e,l,m,n⟩:=h.2 t p;subst e;have f:=a.lt g R;have q:=k g f.1 f.2;refine⟨g,i,c,R,G (Xc q) l,G (Xc q) m,λu r=>?_⟩;let⟨b,v,e,d,s,o⟩:=n u r;exact⟨b,v,e,O,s,G (Xc<|k b d.1 d.2) o⟩
theorem ii.push{w1 w2:Ub}{H_ pa pc ps}(x:ii w1 H_ pa pc ps){s:Wo}(n:Sx w1 H_ 83 2 (X pa (J ps) pc) (J ps) s)(p){a:Uy}{c d r}(ha:∀j (e:j<J p.2),∃b o,a=S (A b o)/\(H_<=b/\b<Z w1.1)/\S b≠(X pa (J ps) pc).ownBlock/\E w1 (A b<|o+j)=S (H p.2[j]))(g:Sx w2 H_ 83 2 (Hl d (J ps+1) r) (J ps+1) (s++[H p.1,X a (J p.2) c]))(t:w1.grownBy w2 (X pa (J ps) pc).ownBlock)(B:(X pa (J ps) pc).ownBlock=S d\/d=Z w1.1):
 ii w2 H_ (S ⟨d,0,U⟩) r (ps++[p]):=by
 have P:=t.4;have v:=n.1;have K:J (ps++[p])=J ps+1:=sP;refine⟨⟨_,K▸g⟩,λq T=>?_⟩;have rows:∀(h:Wc)(a:Uy),(∀j (e:j<J h),∃b o,a=S (A b o)/\(H_<=b/\b<Z w1.1)/\S b≠(X pa (J ps) pc).ownBlock/\E w1 (A b<|o+j)=S (H h[j]))->∀j (e:j<J h),∃b o,a=S (A b o)/\(H_<=b/\b<Z w2.1)/\b≠d/\E w2 (A b<|o+j)=S (H h[j]):=λh a L j e=>by
  let⟨b,o,f,l,i,m⟩:=L j e;refine⟨b,o,f,O,?_,G (Xc<|t.5 b l.2 i) m⟩;obtain k|k:=B;·intro e2;rw[<-e2]at k;exact i k.symm
  omega
 by_cases u:q<J ps
 .let⟨F,w,c0,f,y,z,M⟩:=x.2 q u;subst f;rw[fA u];refine⟨d,w,c0,R,G (ki n g O) y,G (ki n g O) z,rows _ _ λj e=>?_⟩;let⟨b,o,f,l,i,m⟩:=M j e;exact⟨b,o,f,l,λe2=>i (by injection e2),m⟩
 have C:q=J ps:=O;subst C;have e1:(ps++[p])[J ps]=p:=sP;rw[e1];refine⟨d,a,c,R,?_,?_,rows _ _ ha⟩
 .have:=pY (n:=J ps) v g (j:=0) sP;simpa using this
 have:=pY (n:=J ps) v g (j:=1) sP;simpa using this
structure i8(w:Ub)(H_:N)(ia:Uy)(ic:N)(xs:Vr):Prop where
 own:∃cs,Sx w H_ 62 5 (X ia (J xs) ic) (J xs) cs
 at_:∀i (h:i<J xs),∃g,ia=S ⟨g,0,U⟩/\Jk w g (i*5) xs[i]
theorem i8.inss{w H_ ia ic a}(h:i8 w H_ ia ic a):YY w H_ (Z w.1) ia a:=λi d=>by let⟨g,e,b⟩:=h.2 i d;let⟨f,c⟩:=h.1;subst e;exact⟨g,0,R,c.lt g R,by rw[aV];exact b⟩
theorem i8.keep{w w' H_ ia ic d}(h:i8 w H_ ia ic d)(k:YA H_ (Z w.1) w w'):i8 w' H_ ia ic d:=by let⟨f,a⟩:=h.1;refine⟨⟨f,Zl a λb e=>k b (a.lt b e).1 (a.lt b e).2⟩,λl j=>?_⟩;let⟨g,e,i⟩:=h.2 l j;subst e;have c:=a.lt g R;exact⟨g,R,i.keepS<|k g c.1 c.2⟩
theorem i8.push{w1 w2:Ub}{H_ ia ic a}(k:i8 w1 H_ ia ic a){f:Wo}(c:Sx w1 H_ 62 5 (X ia (J a) ic) (J a) f)(x:Yg){d e}(b:Sx w2 H_ 62 5 (Hl d (J a+1) e) (J a+1) (f++x.cells)):i8 w2 H_ (S ⟨d,0,U⟩) e (a++[x]):=by
 have u:=c.1;refine⟨⟨_,by rw[show J (a++[x])=J a+1 by simp];exact b⟩,λi r=>⟨d,R,?_⟩⟩;by_cases g:i<J a
 .let⟨v,h,l,m,n,o,p⟩:=k.2 i g;subst h;rw[fA g];exact⟨G (ki c b O) l,G (ki c b O) m,G (ki c b O) n,G (ki c b O) o,G (ki c b O) p⟩
 have s:i=J a:=by rw[aQ,nR]at r;omega
 subst s;have e1:(a++[x])[J a]=x:=sP;rw[e1];have q:=λ(j:N)(t:j<J x.cells)=>pY (n:=J a) u b (j:=j) t;exact⟨q 0 (by simp[Yg.cells]),q 1 (by simp[Yg.cells]),q 2 (by simp[Yg.cells]),q 3 (by simp[Yg.cells]),q 4<|by simp[Yg.cells]⟩
def nL(w:Ub)(H_:N)(pa:Uy)(pc:N)(ia:Uy)(ic:N)(ps:Za)(is:Vr):Prop :=
 (is=[]/\ia=U/\ic=0/\ii w H_ pa pc ps)\/(is≠[]/\∃a,H_<=a/\a<=Z w.1/\Jw w H_ a pa ps/\i8 w a ia ic is)
theorem nL.keep{w w' H_ pa pc ia ic ps is}(h:nL w H_ pa pc ia ic ps is)(k:YA H_ (Z w.1) w w')(a:Z w.1<=Z w'.1):nL w' H_ pa pc ia ic ps is:=by
 obtain⟨h1,h2,h3,h4⟩|⟨h1,H2,h2,h3,h4,h5⟩:=h;·exact bC ⟨h1,h2,h3,h4.keep k a⟩
 exact aZ ⟨h1,H2,h2,O,h4.keepS<|k.mono aA h3,h5.keep<|k.mono h2 aA⟩
theorem nL.rows{w H_ pa pc ia ic ps is}(h:nL w H_ pa pc ia ic ps is):Jw w H_ (Z w.1) pa ps/\YY w H_ (Z w.1) ia is:=by
 obtain⟨h1,h2,h3,h4⟩|⟨h1,H2,h2,h3,h4,h5⟩:=h
 .subst h1;exact⟨h4.phs,λi a=>Sz a sP⟩
 exact⟨h4.mono aA h3,h5.inss.mono h2<|aA⟩
def PI(w:Ub)(B0 a G_:N)(pre:Wi):Prop:=∀i (h:i<J pre),(∃L B,B0<=L/\B<=a/\¬(L<=G_/\G_<B)/\Tk w L B G_ (i*6) pre[i])/\pre[i].3.1≠0
structure im(w:Ub)(B0:N)(va:Uy)(vc:N)(pre:Wi):Prop where
 own:∃cs,Sx w B0 81 6 (X va (J pre) vc) (J pre) cs
 clo:∀G_,va=S ⟨G_,0,U⟩->PI w B0 (Z w.1) G_ pre
 base:B0<=Z w.1
structure fk(w:Ub)(B0 H_ G_ vc:N)(pre:Wi)(pa:Uy)(pc:N)(ia:Uy)(ic:N)(ps:Za)(is:Vr):Prop where
 own:∃cs,Sx w B0 81 6 (X (S ⟨G_,0,U⟩) (J pre+1) vc) (J pre+1) cs
 clo:PI w B0 H_ G_ pre
 lo:(B0<=G_/\G_<H_)/\B0<=H_/\H_<=Z w.1
 c0:E w ⟨G_,J pre*6,U⟩=S (X pa (J ps) pc)
 c1:E w ⟨G_,J pre*6+1,U⟩=S (X ia (J is) ic)
 ter:Va w G_ (J pre*6+2) ⟨0,0,0,0⟩
 rows:nL w H_ pa pc ia ic ps is
theorem PI.keep{w w':Ub}{B0 t G_ pre}(h:PI w B0 t G_ pre)(k:∀b,B0<=b->b<t->b≠G_->w'.1[b]?=w.1[b]?)(a:∀i,i<J pre*6->E w' (A G_ i)=E w (A G_ i)){U'}(s:t<=U'):PI w' B0 U' G_ pre:=λi g=>by let⟨⟨L,B,e,r,c,pa,pc,ia,ic,j,q1,⟨l,m,n,o⟩,q2,q3⟩,f⟩:=h i g;have d:YA L B w w':=λb p b2=>k b O O λq=>c O;exact⟨⟨L,B,e,O,c,pa,pc,ia,ic,G (a _ O) j,G (a _ O) q1,⟨G (a _ O) l,G (a _ O) m,G (a _ O) n,G (a _ O) o⟩,q2.keepS d,q3.keepS d⟩,f⟩
theorem im.keep{w w' B0 d vc pre}(h:im w B0 d vc pre)(k:YA B0 (Z w.1) w w')(j:Z w.1<=Z w'.1):im w' B0 d vc pre:=by let⟨f,a⟩:=h.1;have l:=h.3;refine⟨⟨f,Zl a λb e=>k b (a.lt b e).1 (a.lt b e).2⟩,λG_ e=>?_,O⟩;subst e;have c:=a.lt G_ R;exact(h.2 G_ R).keep (λb g i _=>k b g i) (λm _=>Xc<|k G_ c.1 c.2) j
theorem fk.keep{w w' B0 H_ G_ vc pre pa pc ia ic ps is}(h:fk w B0 H_ G_ vc pre pa pc ia ic ps is)(k:YA B0 (Z w.1) w w')(i:Z w.1<=Z w'.1):fk w' B0 H_ G_ vc pre pa pc ia ic ps is:=by let⟨f,a⟩:=h.1;have c:=a.lt G_ R;have q:=k G_ c.1 c.2;let⟨j,d,n⟩:=h.3;exact⟨⟨f,Zl a λb e=>k b (a.lt b e).1 (a.lt b e).2⟩,h.2.keep (λb g l _=>k b g O) (λm _=>Xc q) aA,⟨j,d,O⟩,G (Xc q) h.4,G (Xc q) h.5,h.6.keepS q,h.7.keep (k.mono d<|aA) i⟩
theorem im.nil(w B0)(h:B0<=Z w.1):im w B0 U 0 []:=⟨⟨[],dA⟩,λ_ e=>(nomatch e),h⟩
theorem im.open_{w1 w2:Ub}{B0 c vc pre}(n:im w1 B0 c vc pre){h:Wo}(d:Sx w1 B0 81 6 (X c (J pre) vc) (J pre) h){a g}(b:Sx w2 B0 81 6 (Hl a (J pre+1) g) (J pre+1) (h++[Hq,Hq,H 0,H 0,H 0,H 0]))(k:w1.grownBy w2 (X c (J pre) vc).ownBlock)(t:(X c (J pre) vc).ownBlock=S a\/a=Z w1.1):
 fk w2 B0 (Z w2.1) a g pre U 0 U 0 [] []:=by
 have M:=k.4;have I_:=b.lt a R;have v:=d.1;have q:=λ(j:N)(f:j<6)=>pY (n:=J pre) v b (j:=j) f;refine⟨⟨_,b⟩,λw u=>?_,O,q 0 O,q 1 O,⟨q 2 O,q 3 O,q 4 O,q 5 O⟩,bC ⟨R,R,R,ii.nil _ _⟩⟩;let⟨G_,E_,e,J_,K⟩:=d.form O;obtain⟨rfl,-,rfl⟩:=Z5 e;let⟨⟨L,B,o,F,p,pa,pc,ia,ic,x,q1,⟨y,z,A_,C⟩,q2,q3⟩,s⟩:=n.2 G_ R w u;have l:YA L B w1 w2:=λm D_ b2=>k.5 m O (λe=>p<|by injection e with e;dsimp only at e;omega);have r:=λ(j:N)(f:j<J pre*6)=>ki d b f;refine⟨⟨L,B,o,O,?_,pa,pc,ia,ic,G (r _ O) x,G (r _ O) q1,⟨G (r _ O) y,G (r _ O) z,G (r _ O) A_,G (r _ O) C⟩,q2.keepS l,q3.keepS l⟩,s⟩;obtain i|i:=t
 .have:G_=a:=by injection i
  omega
 omega
section
variable{w1 w2:Ub}{B0 H_ G_ vc:N}{pre:Wi}{pa:Uy}{pc:N}{ia:Uy}{ic:N}{ps:Za}{is:Vr}
theorem fk.frame(h:fk w1 B0 H_ G_ vc pre pa pc ia ic ps is){row:Zm}(a:w1.grownBy w2 row)(l:∀b,row=S b->H_<=b)(k)(w:J pre*6<=k)(v:Uj):
 (∃d,Sx (Se w2 ⟨G_,k,U⟩ v) B0 81 6 (X (S ⟨G_,0,U⟩) (J pre+1) vc) (J pre+1) d)/\PI (Se w2 ⟨G_,k,U⟩ v) B0 H_ G_ pre/\(∀i,i≠k->E (Se w2 ⟨G_,k,U⟩ v) ⟨G_,i,U⟩=E w1 ⟨G_,i,U⟩)/\(∀u,E w1 ⟨G_,k,U⟩=S u->E (Se w2 ⟨G_,k,U⟩ v) ⟨G_,k,U⟩=S v)/\(∀b,b≠G_->(Se w2 ⟨G_,k,U⟩ v).1[b]?=w2.1[b]?)/\Z (Se w2 ⟨G_,k,U⟩ v).1=Z w2.1:=by
 let⟨d,g⟩:=h.1;let⟨⟨x,y⟩,z,B⟩:=h.3;have t:=a.4;have o:=g.lt G_ R;have nG:S G_≠row:=λe=>by have:=l G_ e.symm;omega
 have c:=a.5 G_ o.2 nG;have f:∀b,b≠G_->(Se w2 (A G_ k) v).1[b]?=w2.1[b]?:=λb p=>cY p;have m:∀i,i≠k->E (Se w2 (A G_ k) v) (A G_ i)=E w1 (A G_ i):=λi j=>G (cJ<|by intro e;injection e with _ e;exact j e.symm) (Xc c);refine⟨oS (Zl g λb e=>by injection e with e;dsimp only at e;subst e;exact c) k v,h.2.keep (λb r s n=>G (f b n) (a.5 b O λe=>by have:=l b e.symm;omega)) (λi j=>m i O) aA,m,λu q=>?_,f,Xd⟩;exact fQ _ _ _<|G (Xc c) q
theorem fk.phi(h:fk w1 B0 H_ G_ vc pre pa pc ia ic ps []){i:Wo}(k:Sx w1 H_ 83 2 (X pa (J ps) pc) (J ps) i)(p:Ph){a:Uy}{c:N}{d e:N}(ha:∀j (B:j<J p.2),∃b o,a=S ⟨b,o,U⟩/\(H_<=b/\b<Z w1.1)/\S b≠(X pa (J ps) pc).ownBlock/\E w1 ⟨b,o+j,U⟩=S (Si S6 p.2[j]))(n:Sx w2 H_ 83 2 (X (S ⟨d,0,U⟩) (J ps+1) e) (J ps+1) (i++[Si S6 p.1,X a (J p.2) c]))(g:w1.grownBy w2 (X pa (J ps) pc).ownBlock)(q:(X pa (J ps) pc).ownBlock=S d\/d=Z w1.1):
 fk (Se w2 ⟨G_,J pre*6,U⟩ (X (S ⟨d,0,U⟩) (J ps+1) e)) B0 H_ G_ vc pre (S ⟨d,0,U⟩) e ia ic (ps++[p]) []:=by
 obtain⟨⟨r,s⟩,t,C⟩:=h.3;have F:=g.4;obtain⟨f1,f2,f3,l,m,z⟩:=h.frame g (λb f=>(k.lt b f).1) (J pre*6) aA (X (S ⟨d,0,U⟩) (J ps+1) e);obtain⟨u,v,w,x⟩:=h.6;obtain⟨_,rfl,rfl,hr⟩|⟨f,_⟩:=h.7
 .refine⟨f1,f2,⟨⟨r,s⟩,t,O⟩,by rw[show J (ps++[p])=J ps+1 by simp];exact l _ h.4,G (f3 _ O) h.5,⟨G (f3 _ O) u,G (f3 _ O) v,G (f3 _ O) w,G (f3 _ O) x⟩,bC ⟨R,R,R,?_⟩⟩;exact(hr.push k p ha n g q).keep (λb y b2=>m b O) O
 exact Sz R f
theorem fk.ins(h:fk w1 B0 H_ G_ vc pre pa pc ia ic ps is){H2}{f:Wo}(hH:H_<=H2/\H2<=Z w1.1)(o:Jw w1 H_ H2 pa ps)(n:i8 w1 H2 ia ic is)(i:Sx w1 H2 62 5 (X ia (J is) ic) (J is) f)(x:Yg){c a}(m:Sx w2 H2 62 5 (X (S ⟨c,0,U⟩) (J is+1) a) (J is+1) (f++x.cells))(d:w1.grownBy w2 (X ia (J is) ic).ownBlock):
 fk (Se w2 ⟨G_,J pre*6+1,U⟩ (X (S ⟨c,0,U⟩) (J is+1) a)) B0 H_ G_ vc pre pa pc (S ⟨c,0,U⟩) a ps (is++[x]):=by
 obtain⟨⟨p,q⟩,r,z⟩:=h.3;have y:=d.4;have j:=λb e=>i.lt b e;obtain⟨f1,f2,f3,l,g,w⟩:=h.frame d (λb e=>by have:=(j b e).1;omega) (J pre*6+1) O (X (S ⟨c,0,U⟩) (J is+1) a);obtain⟨s,t,u,v⟩:=h.6;refine⟨f1,f2,⟨⟨p,q⟩,r,O⟩,G (f3 _ O) h.4,by rw[show J (is++[x])=J is+1 by simp];exact l _ h.5,⟨G (f3 _ O) s,G (f3 _ O) t,G (f3 _ O) u,G (f3 _ O) v⟩,aZ ⟨sP,H2,hH.1,O,o.keepS (λb k b2=>G (g b O) (d.5 b O λe=>by have:=(j b e.symm).1;omega)),?_⟩⟩;exact(n.push i x m).keep λb k b2=>g b O
theorem fk.insRow(h:fk w1 B0 H_ G_ vc pre pa pc ia ic ps is):∃a b,(H_<=a/\a<=Z w1.1)/\Jw w1 H_ a pa ps/\i8 w1 a ia ic is/\Sx w1 a 62 5 (X ia (J is) ic) (J is) b:=by
 let⟨_,f,e⟩:=h.3;obtain⟨rfl,rfl,rfl,hr⟩|⟨_,a,h1,h2,h3,h4⟩:=h.7;·exact⟨Z w1.1,[],⟨e,aA⟩,hr.phs,⟨⟨[],dA⟩,λi d=>Sz d sP⟩,dA⟩
 let⟨b,c⟩:=h4.1;exact⟨a,b,⟨h1,h2⟩,h3,h4,c⟩
theorem fk.close(h:fk w1 B0 H_ G_ vc pre pa pc ia ic ps is)(t)(z:t.1≠0):im (Se (Se (Se (Se w1 ⟨G_,J pre*6+2,U⟩ (Si S6 t.1)) ⟨G_,J pre*6+2+1,U⟩ (Si S6 t.a)) ⟨G_,J pre*6+2+2,U⟩ (Si S6 t.3)) ⟨G_,J pre*6+2+3,U⟩ (Si S6 t.4)) B0 (S ⟨G_,0,U⟩) vc (pre++[⟨ps,is,t⟩]):=by
 let⟨⟨Q_,R_⟩,B,S_⟩:=h.3;let⟨L_,u⟩:=h.1;let⟨M_,p⟩:=oS u (J pre*6+2) (H t.1);let⟨N_,q⟩:=oS p (J pre*6+2+1) (H t.a);let⟨O_,r⟩:=oS q (J pre*6+2+2) (H t.3);let⟨o,s⟩:=oS r (J pre*6+2+3) (H t.4);let⟨L,F,M,P⟩:=h.6;generalize a:(Se (Se (Se (Se w1 (A G_<|J pre*6+2) (H t.1)) (A G_<|J pre*6+2+1) (H t.a)) (A G_<|J pre*6+2+2) (H t.3)) (A G_<|J pre*6+2+3) (H t.4))=W at*;have far:∀b,b≠G_->W.1[b]?=w1.1[b]?:=λb c=>by rw[<-a,cY c,cY c,cY c,cY c]
 have P_:Z W.1=Z w1.1:=by rw[<-a];simp
 have f:∀i,i<J pre*6+2->E W (A G_ i)=E w1 (A G_ i):=λi g=>by have d:∀k,i≠k->∀(K:Ub)(v:Uj),E (Se K (A G_ k) v) (A G_ i)=E K (A G_ i):=λk x K v=>cJ (by intro e;injection e with _ e;exact x e.symm);rw[<-a,d _ O,d _ O,d _ O,d _ O]
 have T:Va W G_ (J pre*6+2) t:=by rw[<-a];refine⟨?_,?_,?_,?_⟩<;>simp[L,F,M,P,go_sem]
 have y:J (pre++([⟨ps,is,t⟩]:Wi))=J pre+1:=sP;refine⟨⟨o,y▸s⟩,λK_ e=>?_,O⟩;injection e with e;injection e with e;subst e;intro i g;by_cases j:i<J pre
 .rw[fA j];exact(h.2.keep (w':=W) (λb m b2 n=>far b n) (λi g=>f i O) (U':=Z W.1) O) i j
 have w:i=J pre:=O;subst w;have e1:(pre++([⟨ps,is,t⟩]:Wi))[J pre]=⟨ps,is,t⟩:=sP;rw[e1];let⟨C,V⟩:=h.7.rows;have l:YA H_ (Z w1.1) w1 W:=λb m b2=>far b O;refine⟨⟨H_,Z w1.1,B,O,O,pa,pc,ia,ic,G (f _ O) h.4,G (f _ O) h.5,T,C.keepS l,V.keepS l⟩,z⟩
end
theorem im.blks{w B0 a vc pre}(h:im w B0 a vc pre):Xp w B0 (Z w.1) a pre:=λk j=>by let⟨m,i⟩:=h.1;let⟨G_,l,e,d,f⟩:=i.form O;obtain⟨rfl,-,rfl⟩:=Z5 e;let⟨⟨L,B,b,c,_,g⟩,_⟩:=h.2 G_ R k j;exact⟨G_,0,R,⟨d,f⟩,by rw[aV];exact g.mono b c⟩
end
structure NX where
 pre:Wi
 cur:Option (Za×Vr)
def jt(a:Vw):Ph:=⟨Gb<|a.getD 1 [],(a.drop 2).map Gb⟩
def dh(s:NX)(F:List UInt8)(a:List (List UInt8)):Option NX :=
 if F=eh then (match s.2 with|some _=>U|none=>S ⟨s.1,S ([],[])⟩)
 else match s.2 with
  |none=>U
  |some (ps,is)=>
   if F=fm then (if is=[]then S ⟨s.1,S (ps++[jt a],is)⟩else U)
   else if jx F=So then S ⟨s.1++[⟨ps,is,Y4 a⟩],U⟩
   else S ⟨s.1,S (ps,is++[T1 a])⟩
def je(s:NX)(a:Vw):Option NX:=dh s (a.headD []) a
inductive Ln where
 |bad:I->Ln
 |ok:NX->Ln
def bk(s:NX)(a:Wn):Ln :=
 if Bf a=[]then .bad 4 else if C0 (Bf a)≠0 then .bad (C0<|Bf a)else match je s (Bf a)with|none=>.bad 8|some b=>.ok b
inductive Bd where
 |bad:I->N->Bd
 |ok:NX->Bd
def dy:List (List UInt8)->N->NX->Bd
 |[],_,s=>.ok s
 |l::ls,i,s=>match bk s l with|.bad c=>.bad c (i+1)|.ok s'=>dy ls (i+1) s'
structure jg where
 code:I
 line:N
 fn:Fn
def au(c:I)(l:N):jg:=⟨c,l,⟨0,[]⟩⟩
def sT:Wn:=[102,117,110,99]
def nQ(a:Wn):Option I :=
 if J (Bf a)=2/\(Bf a).getD 0 []=sT/\0<=Gb ((Bf a).getD 1 [])then S (Gb<|(Bf a).getD 1 [])else U
def mi(n:N)(V:I)(b:Bd):jg:=match b with
 |.bad c l=>au c l
 |.ok s=>match s.2 with
  |some _=>au 8 n
  |none=>if iu ⟨V,s.1⟩=So then ⟨0,0,⟨V,s.1⟩⟩else au 9 0
def Fa(a:Wn):Vw:=C3 a.dropLast 10
def p8(ls:List (List UInt8))(o:Option I):jg:=match o with
 |none=>au 3 1
 |some V=>mi (J ls) V<|dy ls.tail 1 ⟨[],U⟩
def C2(a:Wn):jg :=
 if 100000<J a then au 1 0 else if a.getLast?≠S 10 then au 2 0 else p8 (Fa a) (nQ<|(Fa a).headD [])
def TT(s:NX):N:=J s.pre+Xx s.pre+(match s.cur with|none=>0|some (ps,is)=>1+J ps+JG ps+J is)
theorem sf(b):J (Bf b)<=J b:=by
 unfold Bf;split
 .rename_i h
  have g:∀(r a:Wn),(am 32 a r).all Y3=So->J (am 32 a r)<=J a+J r:=by
   intro r
   induction r with
   |nil=>
    intro a h;simp only[am,vi,List.all_nil,vR,Y3,bY,bD]at h;simp only[am,bA,bO];omega
   |cons c r d=>
    intro a h;rw[am]at h |-;split at h
    .rename_i e;rw[aU e];rw[vi,bY]at h;have f:=h.1;simp only[Y3,bY,bD]at f;have:=d [] h.2;simp only[bA,bO]at this |-;omega
    rename_i e;rw[aM e];have:=d _ h;simp only[aQ,bA,bO]at this |-;omega
  have:=g b [] h;simpa [C3]using this
 simp
theorem KG(b):∀f∈Bf b,J f<=J b:=λf a=>by
 unfold Bf at a;split at a;·have:=kh 32 b [] f a;simpa using this
 cases a
theorem Lh{a:Vw}(n:0<J a)(c:C0 a=0):
 (a.headD []=eh/\J a=1)\/(a.headD []=fm/\3<=J a)\/(jx (a.headD [])=So/\((a.headD []=fg/\J a=2)\/(a.headD []=ew/\J a=2)\/(a.headD []=Vn/\J a=4))/\a.headD []≠eh/\a.headD []≠fm) \/
 ((1<=D2 (a.headD [])/\D2 (a.headD [])<=10)/\J a=1+(Kz<|D2 (a.headD [])).size/\jx (a.headD [])=Sn/\a.headD []≠eh/\a.headD []≠fm/\(D2 (a.headD [])=1->∀f,a[2]?=S f->NM f=So)):=by
 have b:J a=NJ (a.headD []) (J a)/\gu a (J a-1)=So:=by
  unfold C0 at c;split at c;·cases c
  split at c;·cases c
  rename_i j k;split at c;·rename_i d;exact⟨O,d⟩
  cases c
 let⟨b,l⟩:=b;by_cases h:D2 (a.headD [])=0
 .unfold NJ at b;rw[aM λq=>q h]at b;by_cases e1:a.headD []=eh;·rw[aU e1]at b;exact bC ⟨e1,b⟩
  rw[aM e1]at b;by_cases e2:a.headD []=fg;·rw[aU e2]at b;exact aZ<|aZ (bC ⟨by rw[e2];decide,bC ⟨e2,b⟩,e1,by rw[e2];decide⟩)
  rw[aM e2]at b;by_cases e3:a.headD []=ew;·rw[aU e3]at b;exact aZ<|aZ (bC ⟨by rw[e3];decide,aZ<|bC ⟨e3,b⟩,e1,by rw[e3];decide⟩)
  rw[aM e3]at b;by_cases e4:a.headD []=Vn;·rw[aU e4]at b;exact aZ<|aZ (bC ⟨by rw[e4];decide,aZ<|aZ ⟨e4,b⟩,e1,by rw[e4];decide⟩)
  rw[aM e4]at b;by_cases e5:a.headD []=fm
  .rw[aU e5]at b;refine aZ<|bC ⟨e5,?_⟩;split at b<;>omega
  rw[aM e5]at b;omega
 let⟨j,k,d,o,p,r⟩:=oL h;unfold NJ at b;rw[aU h]at b;refine aZ<|aZ (aZ ⟨j,b,?_,k,r,λt f e=>?_⟩)
 .have i:jx (a.headD [])=(a.headD []==fg||a.headD []==Vn||a.headD []==ew):=R;rw[i];generalize a.headD []=F at*;simp[d,o,p]
 have u:2<J a:=by
  obtain q|q:=mL 2 (J a);·exact q
  rw[dK q]at e;cases e
 have g:jw a 2 f=So:=by unfold gu at l;have:=dV.1 l 1 SB;rw[e]at this;exact this
 have s:a.head?=S fw:=by
  cases a with
  |nil=>simp at n
  |cons x w=>
   have i:D2 x=1:=t;obtain q|⟨m,_,_,q3,q4⟩:=oH x 10 1;·exact Sz q<|by show D2 x≠0;omega
   have v:D2 x=m:=q3;have:m=1:=O;subst this;show S x=S fw;rw[<-q4];rfl
 unfold jw at g;rw[aU ⟨s,R⟩]at g;exact g
theorem sw{s e b}(h:bk s b=.ok e):TT e<=TT s+J b:=by
 unfold bk at h;split at h;·cases h
 split at h;·cases h
 rename_i f d;have d:C0 (Bf b)=0:=by
  obtain q|q:=Decidable.em (C0 (Bf b)=0);·exact q
  exact Sz q d
 have i:0<J (Bf b):=by
  cases hf:Bf b with
  |nil=>exact Sz hf f
  |cons x r=>simp
 have j:=sf b;generalize Bf b=g at*;split at h;·cases h
 rename_i s2 a;injection h with h;subst h;unfold je dh at a;split at a
 .split at a;·cases a
  rename_i c;injection a with a;subst a;simp only[TT,c];simp[JG];omega
 split at a;·cases a
 rename_i l k c;split at a
 .split at a
  .injection a with a;subst a;simp only[TT,c,aQ,nR,Lg,jt,bK,mF];omega
  cases a
 split at a
 .injection a with a;subst a;simp only[TT,c,aQ,nR,Vm,ZZ];omega
 injection a with a;subst a;simp only[TT,c,aQ,nR];omega
def Tn(ls:Vw):N:=(ls.map λl=>J l).sum
theorem pT(sep):∀(r a:Wn),Tn (am sep a r)<=J a+J r
 |[],a=>by simp[am,Tn]
 |c::r,a=>by
  rw[am];split
  .have:=pT sep r [];simp only[Tn,eH,kX,bA,bO]at this |-;omega
  have:=pT sep r<|a++[c];simp only[Tn,aQ,bA,bO]at this |-;omega
theorem JP{a}:(Y4 a).1≠0:=by
 unfold Y4;split;·simp
 split<;>simp
def gw(w:World)(a:N)(b:Option Addr)(n c:N)(s:NX):Prop :=
 match s.2 with
 |none=>n=J s.1/\im w a b c s.1
 |some (ps,is)=>∃i h f g d e,b=S ⟨h,0,U⟩/\n=J s.1+1/\fk w a i h c s.1 f g d e ps is
theorem gw.keep{w' s}(h:gw w n p m k s)(b:YA n (Z w.1) w w')(a:Z w.1<=Z w'.1):gw w' n p m k s:=by
 unfold gw at h |-;split at h;·exact⟨h.1,h.2.keep b a⟩
 let⟨l,o,i,j,f,g,c,d,e⟩:=h;exact⟨l,o,i,j,f,g,c,d,e.keep b a⟩
theorem gw.len{s}(h:gw w n p m k s):m<=TT s:=by
 let⟨j,a⟩:=s
 match a,h with
 |none,h=>have:=h.1;simp only[TT];dsimp only at this;omega
 |some (ps,is),h=>
  let⟨l,o,g,i,e,f,c,b,d⟩:=h;simp only[TT];dsimp only at b;omega
theorem gw.start(w:Ub)(a)(h:a<=Z w.1):gw w a U 0 0 ⟨[],U⟩:=⟨R,im.nil w a h⟩
def nN(w:Ub)(L B:N)(val:Uj)(o:jg):Prop:=∃a b,val=Sa #[Si S6 o.1,Si S6 o.2,Si S6 o.3.1,X a (J o.3.2) b]/\Xp w L B a o.3.2
section
def RZ(w:Ub)(r:N):Prop:=(E w ⟨r,0,U⟩=S (Si S6 0)/\E w ⟨r,1,U⟩=S (Si S6 0)/\E w ⟨r,2,U⟩=S (Si S6 0)/\E w ⟨r,3,U⟩=S (X U 0 0))/\∀o,w.frozen? ⟨r,o,U⟩=Sn
theorem RZ.keep{w a r}(h:RZ w r)(k:a.1[r]?=w.1[r]?):RZ a r :=
 ⟨⟨G (Xc k) h.1.1,G (Xc k) h.1.2.1,G (Xc k) h.1.2.2.1,G (Xc k) h.1.2.2.2⟩,λo=>G (bJ k) (h.2 o)⟩
theorem RZ.new(w:Ub)(t:N):RZ (D w<|Sc #[Si S6 0,Si S6 0,Si S6 0,X U 0 0] t) (Z w.1):=by refine⟨⟨?_,?_,?_,?_⟩,λo=>?_⟩<;>simp[go_sem]
theorem gm{w L B c}{l:N}{a:I}(h:a=l):nN w L B (Sa #[H c,H a,H 0,Hq]) (au c l):=by subst h;exact⟨U,0,R,λi b=>Sz b<|by simp[au]⟩
def kj(w:Ub)(r:N)(a v1 v2 v3:Uj):Ub:=Se (Se (Se (Se w ⟨r,0,U⟩ a) ⟨r,1,U⟩ v1) ⟨r,2,U⟩ v2) ⟨r,3,U⟩ v3
theorem Y1{B}{w W:Ub}(h:Sw B w W){r}(a:B<=r){b v1 v2 v3}:Sw B w (kj W r b v1 v2 v3):=(((h.setCell a _).setCell a _).setCell a _).setCell a _
theorem LL{W r b}(a:b≠r)(c v1 v2 v3):(kj W r c v1 v2 v3).1[b]?=W.1[b]?:=by unfold kj;rw[cY a,cY a,cY a,cY a]
theorem Lr{W r a v1 v2 v3}:Z (kj W r a v1 v2 v3).1=Z W.1:=by unfold kj;simp
theorem sr{ls}{l:Wn}:Tn (ls++[l])=Tn ls+J l:=by simp[Tn]
structure fd(w:Ub)(F0:N)(V:I)(ls:Vw)(la:Uy)(L3 B3:N)(OUT:jg)(k:N)(s:NX)(va:Uy)(vn vc:N)(wr:Ub):Prop where
 below:Sw (Z w.1) w wr
 rv:RZ wr (Z w.1)
 f0:E wr ⟨F0,0,U⟩=S (Si S6 V)
 f1:E wr ⟨F0,1,U⟩=S (X va vn vc)
 fz:∀o,wr.frozen? ⟨F0,o,U⟩=Sn
 lines:Zx wr L3 B3 la (KC ls)
 st:gw wr (F0+1) va vn vc s
 lo:Z w.1<F0/\B3<=F0/\F0<Z wr.1
 tot:TT s<=Tn (ls.take k)
 run:mi (J ls) V (dy (ls.drop k) k s)=OUT
section
variable{w:Ub}{F0:N}{V:I}{ls:Vw}{la:Uy}{L3 B3:N}{OUT:jg}{k:N}{s s':NX}{va va':Uy}{vn vc vn' vc':N}{wr wN:Ub}
theorem fd.next(h:fd w F0 V ls la L3 B3 OUT k s va vn vc wr)(a:Sw F0 wr wN)(l:F0<Z wN.1)(g:E wN (A F0 0)=S (H V))(f1:E wN (A F0 1)=S (X va' vn' vc'))(i:∀o,wN.frozen? (A F0 o)=Sn)(j:gw wN (F0+1) va' vn' vc' s')(b:k<J ls)(d:bk s ls[k]=.ok s'):
 fd w F0 V ls la L3 B3 OUT (k+1) s' va' vn' vc' wN:=by
 let⟨e,f,p⟩:=h.8;have m:=sw d;have n:=h.9;refine⟨h.1.trans<|a.mono O,h.2.keep<|a.5 _ e,g,f1,i,h.6.keepS<|ZU (a.mono f),j,⟨e,f,l⟩,?_,?_⟩
 .have:Tn (ls.take<|k+1)=Tn (ls.take k)+J ls[k]:=by rw[X7 b,sr]
  omega
 have c:=h.10;rw[gZ b,dy,d]at c;exact c
theorem fd.bad(h:fd w F0 V ls la L3 B3 OUT k s va vn vc wr)(b:k<J ls){c}(d:bk s ls[k]=.bad c):OUT=au c (k+1):=by have a:=h.10;rw[gZ b,dy,d]at a;exact a.symm
theorem fd.calm(h:fd w F0 V ls la L3 B3 OUT k s va vn vc wr)(a:Sw (Z wr.1) wr wN):fd w F0 V ls la L3 B3 OUT k s va vn vc wN:=by let⟨e,f,g⟩:=h.8;have d:=a.4;have q:=a.5 F0 g;exact⟨h.1.trans<|a.mono O,h.2.keep<|a.5 _ O,G (Xc q) h.3,G (Xc q) h.4,λo=>G (bJ q) (h.5 o),h.6.keepS<|ZU (a.mono O),h.7.keep (λb _ c=>a.5 b c) d,⟨e,f,O⟩,h.9,h.10⟩
end
theorem oJ(ls k):Tn (ls.take k)<=Tn ls:=Tw _ _ _
end
theorem JU{b:Wn}(j:n=J b)(q:100000<n)(r:n<=9223372036854775807):
 Sk prog 20 #[X p n c] w λe d=>∃val,e=Rt val/\Sw (Z w.1) w d/\nN d (Z w.1) (Z d.1) val (C2 b):=by
 have h:Q (C2 b=au 1 0):=Y (by unfold C2;rw[aU O]);have f:=λt=>Y<|Xb (dC (Z w.1) w) (Sc #[H 0,H 0,H 0,Hq] t);have i:=λt=>Y<|RZ.new w t
 go_in
 go_wp2_with (go_at_call 38;refine YU Y2 λs a=>?_;let⟨⟨k,l,m,o⟩,rz⟩:=(i _).keep (a.5 _ sP);have g:=Y<|Xg (f _).o a;clear a)
 exact YL (v:=Sa #[H 1,H 0,H 0,Hq]) ⟨_,R,Y1 g<|aA,by rw[h.o];exact gm R⟩
theorem JH{a}(ha:Q (Yx w m k p a))(f:Q (n=J a))(C:n<=100000)(z:k<=Z w.1)(l:Q (a.getLast?≠S 10)):
 Sk prog 20 #[X p n c] w λe g=>∃val,e=Rt val/\Sw (Z w.1) w g/\nN g (Z w.1) (Z g.1) val (C2 a):=by
 have q:Q (C2 a=au 2 0):=Y (by have:=f.o;unfold C2;rw[aM O,aU l.o]);have h:=λt=>Y<|Xb (dC (Z w.1) w) (Sc #[H 0,H 0,H 0,Hq] t);have r:=λt=>Y<|RZ.new w t;by_cases i:n=0
 focus
  subst i
 rotate_left
 focus
  have K:1<=n:=O;have d:n-1<J a:=oN f.o
  obtain⟨y,F,rfl,⟨_,L⟩,j⟩:=ha (n-1) d;have M:((a[n-1].toNat:I) != 10)=So:=by rw[jJ];intro e;apply l;rw[List.getLast?_eq_getElem?,show J a-1=n-1 by have:=f.o;omega,aC d];congr 1;exact UInt8.toNat_inj.1<|by show a[n-1].toNat=10;omega
  have B:=λt=>oB (h t) j O;generalize a[n-1].toNat=T at*
 all_goals (
  go_in
  go_wp2_with (go_at_call 38;refine YU Y2 λP b=>?_;let⟨⟨s,u,v,x⟩,rz⟩:=(r _).keep (b.5 _ sP);have o:=Y<|Xg (h _).o b;clear b)
  exact YL (v:=Sa #[H 2,H 0,H 0,Hq]) ⟨_,R,Y1 o<|aA,by rw[q.o];exact gm R⟩)
