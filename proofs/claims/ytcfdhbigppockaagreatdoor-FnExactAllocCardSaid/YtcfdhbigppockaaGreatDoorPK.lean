import Derived.Test.YtcfdhbigppockaaGreatDoorMB1
import Derived.Deep.AppendLies
import Derived.Test.YtcfdhbigppockaaGreatDoorW18b
import Derived.Deep.Cut
namespace Go.Proofs.YtcfdhbigppockaaGreatDoor
set_option maxHeartbeats 8000000
set_option maxRecDepth 100000
open Go.RowKit Go.Proofs.Tryz
variable{t T:Int}{n m k c:Nat}{w v u:Ub}{a:Uj}{p:Uy}
def fv(a:Int):Wn:=(Kz a).1.1
def qb(x:Yg)(c:UInt8)(v:Int):Yg:=if c=100 then ⟨x.1,v,x.a,x.b,x.5⟩else if c=97 then ⟨x.1,x.2,v,x.b,x.5⟩else if c=98 then ⟨x.1,x.2,x.a,v,x.5⟩else if c=105 then ⟨x.1,x.2,x.a,x.b,v⟩else x
def sZ(a:Int)(c:UInt8)(f:Wn):Int:=if a=1/\c=105 then i9 f else Gb f
def ND(b:List (List UInt8))(a:Int):Nat->Yg
 |0=>⟨a,0,0,0,0⟩
 |k+1=>qb (ND b a k) ((fv a).getD k 0) (sZ a ((fv a).getD k 0) (b.getD (k+1) []))
def T1(a:Vw):Yg:=ND a (D2<|a.headD []) (fv<|D2 (a.headD [])).length
def Y4(a:Vw):Yj :=
 if a.headD []=fg then ⟨1,0,Gb<|a.getD 1 [],0⟩else if a.headD []=ew then ⟨3,Gb<|a.getD 1 [],0,0⟩else ⟨2,Gb<|a.getD 1 [],Gb<|a.getD 2 [],Gb<|a.getD 3 []⟩
theorem Y2:
 Calls prog 24 #[Hp t,Hp T] w λe a=>e=.returned (.agg #[Hp t,Hp T,Hp 0,Hq])/\Below w.1.size w a:=by
 go_in
 go_wp2;refine cC (v:=.agg #[Hp t,Hp T,Hp 0,Hq]) (by simp[results,results24,go_sem]) rfl ⟨rfl,Xb (Below.refl _ _) _⟩
theorem yF{d f1:Wn}(x:d=fg\/d=ew)(ha:Hs (Zx w n m p<|KC [d,f1]))(D:m<=w.1.size):
 Calls prog 30 #[.slice p 2 c] w λg A=>g=.returned (.agg #[Hp (Y4 [d,f1]).1,Hp (Y4 [d,f1]).a,Hp (Y4 [d,f1]).3,Hp (Y4 [d,f1]).4])/\Below w.1.size w A:=by
 obtain⟨f,o,rfl,E,c0⟩:=ha 0 (by simp[KC]);let⟨B,G,t,_,c1⟩:=ha 1 (by simp[KC]);cases t;have c0:Cl w f o (.string (K8 d)):=c0;have c1:Cl w f (o+1) (.string (K8 f1)):=c1;have s:f<w.1.size:=oM;have r:=λw=>Xa<|j9 f1 w;have F:=T4 d;obtain rfl|rfl:=x
 .have u:(fg==[106,117,109,112])=true:=rfl
  go_in
  go_wp2_with fail
  refine(r _).mono ?_;rintro g b⟨rfl,a⟩;have h:=a.4;simp at h;have z:=oB a (((Xb (Below.refl w.1.size w) _).cell (p:=Hk f o) s).trans c0) (by simp;omega);have e:=Xa<|Xg (Xb (Below.refl w.1.size w) _) a;have i:Cl b w.1.size 0 (Hp 0):=(a.cell (p:=Hk w.1.size 0) sP).trans sP;have j:Cl b w.1.size 1 (Hp 0):=(a.cell (p:=Hk w.1.size 1) sP).trans sP;have k:Cl b w.1.size 2 (Hp 0):=(a.cell (p:=Hk w.1.size 2) sP).trans sP;have l:Cl b w.1.size 3 (Hp 0):=(a.cell (p:=Hk w.1.size 3) sP).trans sP;have v:∀q,b.frozen? (Hk w.1.size q)=false:=λq=>(a.frozen (p:=Hk w.1.size q) sP).trans sP;have y:w.1.size<b.1.size:=oM;go_wp2;refine cC (v:=.agg #[Hp 1,Hp 0,Hp<|Gb f1,Hp 0]) (by simp[results,results30,go_sem,i,j,k,l]) rfl ⟨rfl,?_⟩
  first|exact e|exact((((e.setCell (p:=Hk w.1.size 0) aA _).setCell (p:=Hk w.1.size 1) aA _).setCell (p:=Hk w.1.size 2) aA _).setCell (p:=Hk w.1.size 3) aA _)
 have u:(ew==[106,117,109,112])=false:=rfl;have C:(ew==[114,101,116])=true:=rfl
 go_in
 go_wp2_with fail
 refine(r _).mono ?_;rintro g b⟨rfl,a⟩;have h:=a.4;simp at h;have z:=oB a (((Xb (Below.refl w.1.size w) _).cell (p:=Hk f o) s).trans c0) (by simp;omega);have e:=Xa<|Xg (Xb (Below.refl w.1.size w) _) a;have i:Cl b w.1.size 0 (Hp 0):=(a.cell (p:=Hk w.1.size 0) sP).trans sP;have j:Cl b w.1.size 1 (Hp 0):=(a.cell (p:=Hk w.1.size 1) sP).trans sP;have k:Cl b w.1.size 2 (Hp 0):=(a.cell (p:=Hk w.1.size 2) sP).trans sP;have l:Cl b w.1.size 3 (Hp 0):=(a.cell (p:=Hk w.1.size 3) sP).trans sP;have v:∀q,b.frozen? (Hk w.1.size q)=false:=λq=>(a.frozen (p:=Hk w.1.size q) sP).trans sP;have y:w.1.size<b.1.size:=oM;go_wp2;refine cC (v:=.agg #[Hp 3,Hp<|Gb f1,Hp 0,Hp 0]) (by simp[results,results30,go_sem,i,j,k,l]) rfl ⟨rfl,?_⟩
 first|exact e|exact((((e.setCell (p:=Hk w.1.size 0) aA _).setCell (p:=Hk w.1.size 1) aA _).setCell (p:=Hk w.1.size 2) aA _).setCell (p:=Hk w.1.size 3) aA _)
theorem Kg{f1 f2 f3:Wn}(ha:Hs (Zx w n m p<|KC [Vn,f1,f2,f3]))(hB:m<=w.1.size):
 Calls prog 30 #[.slice p 4 c] w λe f=>e=.returned (.agg #[Hp 2,Hp<|Gb f1,Hp<|Gb f2,Hp<|Gb f3])/\Below w.1.size w f:=by
 obtain⟨d,o,rfl,hb,c0⟩:=ha 0 (by simp[KC]);let⟨x,B,i,_,c1⟩:=ha 1 (by simp[KC]);cases i;let⟨x,B,i,_,c2⟩:=ha 2 (by simp[KC]);cases i;let⟨x,B,i,_,c3⟩:=ha 3 (by simp[KC]);cases i;have c0:Cl w d o (.string (K8 Vn)):=c0;have c1:Cl w d (o+1) (.string (K8 f1)):=c1;have J:Hs (w.cell? (Hk d<|o+2)=some (.string (K8 f2))):=Xa c2;have K:Hs (w.cell? (Hk d<|o+3)=some (.string (K8 f3))):=Xa c3;clear c2 c3;have P:d<w.1.size:=oM;have L:=λw=>Xa<|j9 f1 w;have M:=λw=>Xa<|j9 f2 w;have N:=λw=>Xa<|j9 f3 w;have ab:=T4 Vn;have Y:(Vn==[106,117,109,112])=false:=rfl;have Z:(Vn==[114,101,116])=false:=rfl
 go_in
 go_wp2_with fail
 refine(L _).mono ?_;rintro e a⟨rfl,g⟩;have Q:=g.4;simp at Q;have r:=λq=>oB g ((Xb (Below.refl w.1.size w) _).cell (p:=Hk d q) P) (by simp;omega)
 have k0:=(r _).trans c0;have R:=(r _).trans J;have S:=(r _).trans K;have H:=Xa<|Xg (Xb (Below.refl w.1.size w) _) g;have l:Hs (∀q,q<4->a.cell? (Hk w.1.size q)=some (Hp 0)):=Xa (λq hq=>(g.cell (p:=Hk w.1.size q) sP).trans (by
  have:q=0\/q=1\/q=2\/q=3:=oM;obtain rfl|rfl|rfl|rfl:=this<;>simp))
 have E:Hs (∀q,a.frozen? (Hk w.1.size q)=false):=Xa λq=>(g.frozen (p:=Hk w.1.size q) sP).trans sP;have h:w.1.size<a.1.size:=oM;have z:d<a.1.size:=oM;clear g c0 c1 r;have aa:∀(W:Ub)(A t:Nat)(C:Uj),(W.setCell (Hk w.1.size A) C).cell? (Hk d t)=W.cell? (Hk d t):=λW A t C=>cJ<|by intro j;injection j with h1;omega
 have s:Hs (∀W,Below a.1.size a W->Hs (Below a.1.size a W)/\W.cell? (Hk d<|o+2)=some (.string (K8 f2))/\W.cell? (Hk d<|o+3)=some (.string (K8 f3))/\(W.cell? (Hk w.1.size 0)=some (Hp 0)/\W.cell? (Hk w.1.size 1)=some (Hp 0)/\W.cell? (Hk w.1.size 2)=some (Hp 0)/\W.cell? (Hk w.1.size 3)=some (Hp 0))/\(∀q,W.frozen? (Hk w.1.size q)=false)/\w.1.size<W.1.size):=Xa (λW b=>
  ⟨Xa b,oB b R z,oB b S z,⟨oB b (l 0 vY) h,oB b (l 1 vY) h,oB b (l 2 vY) h,oB b (l 3 vY) h⟩,λq=>(b.frozen (p:=Hk w.1.size q) h).trans (E q),aX h b.4⟩)
 have v:Hs (∀W,Below a.1.size a W->Calls prog 27 #[.string (K8 f2)] W λe f=>e=.returned (Hp<|Gb f2)/\Below a.1.size a f):=Xa (λW b=>(M W).mono (by rintro e f⟨rfl,j⟩;exact⟨rfl,b.trans<|j.mono b.4⟩));have O:Hs (∀W,Below a.1.size a W->Calls prog 27 #[.string (K8 f3)] W λe f=>e=.returned (Hp<|Gb f3)/\Below a.1.size a f):=Xa (λW b=>(N W).mono (by rintro e f⟨rfl,j⟩;exact⟨rfl,b.trans<|j.mono b.4⟩));have F:Hs (Below a.1.size a a):=Xa<|Below.refl _ _;have G:Hs (Below a.1.size a a.drew):=Xa (Below.refl _ _).drew;go_wp2_with fail
 go_region_held3 (λf=>f.cell? (Hk d<|o+2)=some (.string (K8 f2))/\f.cell? (Hk d<|o+3)=some (.string (K8 f3))) (go_keep)
  (first
   |(go_at_call 27;with_reducible refine(v.o a F.o).mono ?_;rintro e D⟨rfl,k⟩;let⟨u,s1,s2,s3,s4,s5⟩:=s.o _ k;clear k)
   |(go_at_call 27;with_reducible refine(v.o a.drew G.o).mono ?_;rintro e D⟨rfl,k⟩;let⟨u,s1,s2,s3,s4,s5⟩:=s.o _ k;clear k)
   |(go_at_call 27;with_reducible refine(O.o D u.o).mono ?_;rintro e w3⟨rfl,y⟩;let⟨I,v1,v2,⟨T,U,V,X⟩,v4,v5⟩:=s.o _ y;clear y))
 all_goals
  go_wp2;refine cC (v:=.agg #[Hp 2,Hp<|Gb f1,Hp<|Gb f2,Hp<|Gb f3]) (by simp[results,results30,go_sem,T,U,V,X]) rfl ⟨rfl,?_⟩;exact(((((H.trans<|I.mono oM).setCell (p:=Hk w.1.size 0) aA _).setCell (p:=Hk w.1.size 1) aA _).setCell (p:=Hk w.1.size 2) aA _).setCell (p:=Hk w.1.size 3) aA _)
theorem IU(a:Vw)(f:Uy)(c:Nat)(L B:Nat)(w:Ub)(ha:Hs (Zx w L B f<|KC a))(e:B<=w.1.size)(h:(a.headD []=fg/\a.length=2)\/(a.headD []=ew/\a.length=2)\/(a.headD []=Vn/\a.length=4)):
 Calls prog 30 #[.slice f a.length c] w λg i=>g=.returned (.agg #[Hp (Y4 a).1,Hp (Y4 a).a,Hp (Y4 a).3,Hp (Y4 a).4])/\Below w.1.size w i:=by
 obtain⟨d,h2⟩|⟨d,h2⟩|⟨d,h2⟩:=h
 .obtain⟨b,f1,rfl⟩:∃b f1,a=[b,f1]:=by
   match a,h2 with
   |[b,f1],_=>exact⟨b,f1,rfl⟩
  exact yF (bC d) ha e
 .obtain⟨b,f1,rfl⟩:∃b f1,a=[b,f1]:=by
   match a,h2 with
   |[b,f1],_=>exact⟨b,f1,rfl⟩
  exact yF (aZ d) ha e
 obtain⟨b,f1,f2,f3,rfl⟩:∃b f1 f2 f3,a=[b,f1,f2,f3]:=by
  match a,h2 with
  |[b,f1,f2,f3],_=>exact⟨b,f1,f2,f3,rfl⟩
 have d:b=Vn:=d;subst d;exact Kg ha e
theorem KI(h:1<=t/\t<=10):∀c∈fv t,c=100\/c=97\/c=98\/c=105:=by
 have a:t=1\/t=2\/t=3\/t=4\/t=5\/t=6\/t=7\/t=8\/t=9\/t=10:=oM;obtain rfl|rfl|rfl|rfl|rfl|rfl|rfl|rfl|rfl|rfl:=a<;>decide
theorem Mt(h:(fv 1).getD n 0=105):n=1:=by
 match n,h with
 |0,h=>exact absurd h vY
 |1,_=>rfl
 |n+2,h=>exact absurd h<|by simp[fv,Kz]
theorem zN(b:Vw)(a:Int):∀k,(ND b a k).1=a
 |0=>rfl
 |k+1=>by
  rw[ND];have:=zN b a k;unfold qb
  repeat' split
  all_goals exact this
structure O3(w:Ub)(X:Nat)(x:Yg)(W:Ub):Prop where
 below:Below w.1.size w W
 ins:Jk W X 0 x
 fx:∀q,W.frozen? ⟨X,q,none⟩=false
 res:∀q,q<5->W.cell? ⟨w.1.size,q,none⟩=some (.int .i64 0)
 fr:∀q,W.frozen? ⟨w.1.size,q,none⟩=false
 lt:X<W.1.size
 wx:w.1.size<X
theorem O3.next{x:Yg}(h:O3 w n x v)(k:Below v.1.size v u):O3 w n x u:=by
 have a:=h.6;have b:=h.7;exact⟨Xg h.1 k,h.2.keepS<|k.5 n a,λq=>(k.frozen (p:=Hk n q) a).trans (h.3 q),λq hq=>oB k (h.4 q hq) oM,λq=>(k.frozen (p:=Hk w.1.size q) (by show w.1.size<_;omega)).trans (h.5 q),aX a k.4,b⟩
theorem O3.put{x y:Yg}(h:O3 w n x v)(c:Jk (v.setCell ⟨n,m,none⟩ a) n 0 y):O3 w n y (v.setCell ⟨n,m,none⟩ a):=by
 have b:=h.7;exact⟨h.1.setCell (p:=Hk n m) (by show w.1.size<=n;omega) _,c,λq=>by rw[eX];exact h.3 q,λq hq=>by rw[cJ<|by intro e;injection e with e1;omega];exact h.4 q hq,λq=>by rw[eX];exact h.5 q,by rw[Xd];exact h.6,b⟩
theorem IM{b:Vw}(o c:Nat)(aj:Nat)(w:Ub){F:Wn}(ha:Hs (Zx w aj m (some ⟨n,o,none⟩) (KC b)))(a1:n<m)(hB:m<=w.1.size)(C:0<b.length)(y:Hs (b.headD []=F))(ar:1<=D2 F/\D2 F<=10)(hl:Hs (b.length=1+(Kz<|D2 F).size))(ap:Hs (D2 F=1->∀B,b[2]?=some B->NM B=true)):
 Calls prog 31 #[Hm n o b.length c] w λf w'=>f=.returned (.agg #[Hp (T1 b).1,Hp (T1 b).2,Hp (T1 b).a,Hp (T1 b).b,Hp (T1 b).5])/\Below w.1.size w w':=by
 have r:∀i (h:i<b.length),w.cell? (Hk n<|o+i)=some (.string (K8 b[i])):=λi h=>by
  let⟨b',o',f,hb,hc⟩:=ha i (by simpa [KC]using h);cases f;exact hc.trans<|by simp[KC]
 have c0:Cl w n o (.string (K8 F)):=(r 0 C).trans (by rw[<-y.o];cases b with|nil=>simp at C|cons x a4=>rfl);have S:=Xa r;have Z:=λw=>Xa<|yZ F w;have af:=λw=>Xa<|qX (D2 F) w;have ao:n<w.1.size:=oM;clear r
 go_in
 go_wp2_with fail
 refine(Z _).mono ?_;rintro f e⟨rfl,g⟩;have az:=g.4;simp at az;have t:w.1.size<e.1.size:=oM;have v:=Xa<|Xg (Xb (Below.refl w.1.size w) _) g;have A:Hs (∀q,q<5->e.cell? (Hk w.1.size q)=some (Hp 0)):=Xa (λq hq=>(g.cell (p:=Hk w.1.size q) sP).trans (by
  have:q=0\/q=1\/q=2\/q=3\/q=4:=oM;obtain rfl|rfl|rfl|rfl|rfl:=this<;>simp))
 have z:Hs (∀q,e.frozen? (Hk w.1.size q)=false):=Xa λq=>(g.frozen (p:=Hk w.1.size q) sP).trans sP;clear g;have ad:=Xa<|q7 (D2 F);generalize J:D2 F=a at*;go_wp2_with (go_at_call 62;refine(af _).mono ?_;rintro f O⟨rfl,L⟩;rw[L];clear L O)
 have K:O3 w e.1.size (ND b a 0) (e.alloc<|.cells #[Hp a,Hp 0,Hp 0,Hp 0,Hp 0] 66):=by
  have p:=Xb (Below.refl e.1.size e) (.cells #[Hp a,Hp 0,Hp 0,Hp 0,Hp 0] 66);refine⟨Xg v p,?_,λq=>sP,λq hq=>oB p (A q hq) t,λq=>(p.frozen (p:=Hk w.1.size q) t).trans (z q),sP,t⟩;refine⟨?_,?_,?_,?_,?_⟩<;>simp[ND]
 have ac:=Xa K;have a2:=ad.o;have aa:Hs (T1 b=ND b a (Kz a).size):=Xa (by unfold T1;rw[y.o,J];rfl);have W:=Xa<|KI ar;clear K v A z c0 J;generalize e.1.size=al at*;generalize e.alloc _=W2 at*;go_wp2
 go_loopw [5] (λi wr=>∃k:Nat,k<=(Kz a).size/\i=Hp k/\Hs (O3 w al (ND b a k) wr)) λi _=>(Kz a).size-(intOf i).toNat
 case atStart=>exact⟨0,aN,rfl,ac⟩
 obtain⟨k,hk,rfl,d⟩:=hrel;let⟨i0,i1,i2,i3,i4⟩:=d.2;have lt:=d.6;have wx:=d.7;by_cases I:k<(Kz a).size
 .have s:k+1<b.length:=oN hl.o;have aq:(k:Int)<((Kz a).size:Int):=oM;have cg:=oB d.1 (S (k+1) s) ao;have E:b.getD (k+1) []=b[k+1]:=by simp[List.getD,s]
  have H:k<(fv a).length:=by unfold fv;rw[Array.length_toList];exact I
  have V:Hs (∀(h:k<(Kz a).size),((((Kz a)[k]'h).toNat:Int))=(((fv a).getD k 0).toNat:Int)):=Xa (λh=>by simp[List.getD,H];rfl);have X:Hs (ND b a (k+1)=qb (ND b a k) ((fv a).getD k 0) (sZ a ((fv a).getD k 0) b[k+1])):=Xa (by rw[ND,E]);have T:Hs (a=1->(fv a).getD k 0=105->NM b[k+1]=true):=Xa (λe1 e2=>by
   subst e1;have:=Mt e2;subst this;exact ap rfl _<|aC s)
  have hm:=W ((fv a).getD k 0) (by simp[List.getD,H]);have M:=zN b a k;clear E;generalize b[k+1]=P at*;generalize (fv a).getD k 0=cl at*;generalize N:ND b a k=x at*;have a0:=Xa N;clear N;have j:(x.1==1)=true/\(a=1)=True\/(x.1==1)=false/\(a=1)=False:=by
   rw[M];by_cases h:a=1;·exact bC ⟨iA.2 h,eq_true h⟩
   exact aZ ⟨iS.2 h,eq_false h⟩
  clear M;obtain⟨hx1,j⟩|⟨hx1,j⟩:=j<;>obtain rfl|rfl|rfl|rfl:=hm
  all_goals
   have g:=V I;have u:=X.o;simp only[UInt8.reduceToNat,Int.cast_ofNat_Int]at g;simp[qb,sZ,j]at u;have Y:=Xa u;have Q:=Xa j;clear u j;go_wp2_with ((first|(go_at_call 27;refine(j9 P _).mono ?_)|(go_at_call 64;refine(IT<|T (of_eq_true Q) rfl).mono ?_));rintro f O⟨rfl,D⟩;have l:=d.next D;let⟨j0,j1,j2,j3,j4⟩:=l.2;have jf:=l.3;have jl:=l.6;have U:=Xa l;clear l D)
   go_wp2;exact⟨⟨k+1,oM,gM,Xa (by rw[Y.o];refine U.put ⟨?_,?_,?_,?_,?_⟩<;>first|exact fQ _ _ _ (by assumption)|exact(cJ<|by intro f;injection f with _ e2;omega).trans (by assumption))⟩,by simp[intOf];omega⟩
 have G:k=(Kz a).size:=oM;have ab:Hs (T1 b=ND b a k):=Xa (by rw[aa.o,G]);have r0:=d.4 0 vY;have r1:=d.4 1 vY;have r2:=d.4 2 vY;have r3:=d.4 3 vY;have r4:=d.4 4 vY;have fr:=d.5;have R:=Xa d.1;have aq:¬((k:Int)<((Kz a).size:Int)):=oM;clear G;generalize ND b a k=x at*;have a3:w.1.size<wr.1.size:=oM;go_wp2;rw[ab.o];refine cC (v:=.agg #[Hp x.1,Hp x.2,Hp x.a,Hp x.b,Hp x.5]) (by simp[results,results31,go_sem,r0,r1,r2,r3,r4]) rfl ⟨rfl,?_⟩;exact(((((R.setCell (p:=Hk w.1.size 0) aA _).setCell (p:=Hk w.1.size 1) aA _).setCell (p:=Hk w.1.size 2) aA _).setCell (p:=Hk w.1.size 3) aA _).setCell (p:=Hk w.1.size 4) aA _)
section
theorem pX{w:Ub}{b e s g n c:Nat}{a:Wo}(h:w.ownsRow b e s (Hl g n c) n a){j:Nat}(d:j<a.length):w.cell? (Hk g j)=some a[j]:=by
 have:=h.cells (g:=g) rfl j a[j] sP;rw[ja]at this;exact this
theorem ki{w1 w2:Ub}{a e s g d n h c i:Nat}{b l:Wo}(f:w1.ownsRow a e s (Hl g n c) n b)(k:w2.ownsRow a e s (Hl d h i) h (b++l)){j:Nat}(m:j<n*s):w2.cell? (Hk d j)=w1.cell? (Hk g j):=by
 have o:=f.1;rw[pX f oM,pX k (by rw[aQ];omega),fA oM]
theorem pY{w2:Ub}{e g s c n d f:Nat}{b a:Wo}(i:b.length=n*s)(h:w2.ownsRow e g s (Hl c d f) d (b++a)){j:Nat}(k:j<a.length):w2.cell? (Hk c<|n*s+j)=some a[j]:=by
 rw[pX h (by rw[aQ];omega),fN oM];simp[i]
theorem oS{w:Ub}{a e s g n c:Nat}{b:Wo}(h:w.ownsRow a e s (.slice (some ⟨g,0,none⟩) n c) n b)(k:Nat)(v:Uj):∃d,(w.setCell ⟨g,k,none⟩ v).ownsRow a e s (.slice (some ⟨g,0,none⟩) n c) n d:=by
 obtain⟨e2,_⟩|⟨g',cap,cur,e2,hb,hh,h1,h2,h3,h4⟩:=h.2;·cases e2
 injection e2 with e3 _ e5
 injection e3 with e3;injection e3 with e4;subst e4 e5;have f:(w.setCell (Hk g k) v).1[g]?=some (.cells (cur.setIfInBounds k v) e (0,0)):=by
  simp only[World.setCell,Array.getElem?_modify,hh];simp
 refine⟨(cur.setIfInBounds k v).1.take (n*s),?_,aZ ⟨g,c,_,rfl,hb,f,h1,h2,by simpa using h3,rfl⟩⟩;have:n*s<=cur.size:=h3▸jI _ h1;simp;omega
structure ii(w:Ub)(H:Nat)(pa:Uy)(pc:Nat)(ps:Za):Prop where
 own:∃cs,w.ownsRow H 62 2 (.slice pa ps.length pc) ps.length cs
 at_:∀i (h:i<ps.length),∃g a c,pa=some ⟨g,0,none⟩/\w.cell? ⟨g,i*2,none⟩=some (.int .i64 ps[i].1)/\w.cell? ⟨g,i*2+1,none⟩=some (.slice a ps[i].2.length c) /\
  ∀j (hj:j<ps[i].2.length),∃b o,a=some ⟨b,o,none⟩/\(H<=b/\b<w.1.size)/\b≠g/\w.cell? ⟨b,o+j,none⟩=some (.int .i64 ps[i].2[j])
theorem ii.nil(w:Ub)(H:Nat):ii w H none 0 []:=⟨⟨[],dA⟩,λi h=>absurd h sP⟩
theorem ii.phs{w:Ub}{H:Nat}{pa:Uy}{pc:Nat}{ps:Za}(h:ii w H pa pc ps):Jw w H w.1.size pa ps:=λo m=>by
 let⟨g,a,c,e,d,f,i⟩:=h.2 o m;let⟨r,l⟩:=h.1;subst e;refine⟨g,0,rfl,l.lt g rfl,a,c,by rw[aV];exact d,by rw[aV];exact f,λp n=>?_⟩;let⟨b,q,e,j,_,k⟩:=i p n;exact⟨b,q,e,j,k⟩
theorem ii.keep{w w':Ub}{H:Nat}{pa:Uy}{pc:Nat}{ps:Za}(h:ii w H pa pc ps)(k:YA H w.1.size w w')(x:w.1.size<=w'.1.size):ii w' H pa pc ps:=by
 let⟨j,a⟩:=h.1;refine⟨⟨j,Zl a λb e=>k b (a.lt b e).1 (a.lt b e).2⟩,λt p=>?_⟩;let⟨g,i,c,e,l,m,n⟩:=h.2 t p;subst e;have f:=a.lt g rfl;have q:=k g f.1 f.2;refine⟨g,i,c,rfl,(Xc q).trans l,(Xc q).trans m,λu r=>?_⟩;let⟨b,v,e,d,s,o⟩:=n u r;exact⟨b,v,e,oM,s,(Xc<|k b d.1 d.2).trans o⟩
theorem ii.push{w1 w2:Ub}{H:Nat}{pa:Uy}{pc:Nat}{ps:Za}(x:ii w1 H pa pc ps){s:Wo}(n:w1.ownsRow H 62 2 (.slice pa ps.length pc) ps.length s)(p:Ph){a:Uy}{c:Nat}{d r:Nat}(ha:∀j (e:j<p.2.length),∃b o,a=some (Hk b o)/\(H<=b/\b<w1.1.size)/\some b≠(Value.slice pa ps.length pc).ownBlock/\w1.cell? (Hk b<|o+j)=some (Hp p.2[j]))(g:w2.ownsRow H 62 2 (Hl d (ps.length+1) r) (ps.length+1) (s++[Hp p.1,.slice a p.2.length c]))(t:w1.grownBy w2 (Value.slice pa ps.length pc).ownBlock)(B:(Value.slice pa ps.length pc).ownBlock=some d\/d=w1.1.size):
 ii w2 H (some ⟨d,0,none⟩) r (ps++[p]):=by
 have I:=t.4;have v:=n.1;have D:(ps++[p]).length=ps.length+1:=sP;refine⟨⟨_,D▸g⟩,λq J=>?_⟩;have rows:∀(h:Wc)(a:Uy),(∀j (e:j<h.length),∃b o,a=some (Hk b o)/\(H<=b/\b<w1.1.size)/\some b≠(Value.slice pa ps.length pc).ownBlock/\w1.cell? (Hk b<|o+j)=some (Hp h[j]))->∀j (e:j<h.length),∃b o,a=some (Hk b o)/\(H<=b/\b<w2.1.size)/\b≠d/\w2.cell? (Hk b<|o+j)=some (Hp h[j]):=λh a E j e=>by
  let⟨b,o,f,l,i,m⟩:=E j e;refine⟨b,o,f,oM,?_,(Xc<|t.5 b l.2 i).trans m⟩;obtain k|k:=B;·intro e2;rw[<-e2]at k;exact i k.symm
  omega
 by_cases u:q<ps.length
 .let⟨F,w,c0,f,y,z,A⟩:=x.2 q u;subst f;rw[fA u];refine⟨d,w,c0,rfl,(ki n g oM).trans y,(ki n g oM).trans z,rows _ _ λj e=>?_⟩;let⟨b,o,f,l,i,m⟩:=A j e;exact⟨b,o,f,l,λe2=>i (by injection e2),m⟩
 have C:q=ps.length:=oM;subst C;have e1:(ps++[p])[ps.length]=p:=sP;rw[e1];refine⟨d,a,c,rfl,?_,?_,rows _ _ ha⟩
 .have:=pY (n:=ps.length) v g (j:=0) sP;simpa using this
 have:=pY (n:=ps.length) v g (j:=1) sP;simpa using this
structure i8(w:Ub)(H:Nat)(ia:Uy)(ic:Nat)(xs:Vr):Prop where
 own:∃cs,w.ownsRow H 66 5 (.slice ia xs.length ic) xs.length cs
 at_:∀i (h:i<xs.length),∃g,ia=some ⟨g,0,none⟩/\Jk w g (i*5) xs[i]
theorem i8.inss{w:Ub}{H:Nat}{ia:Uy}{ic:Nat}{a:Vr}(h:i8 w H ia ic a):YY w H w.1.size ia a:=λi d=>by
 let⟨g,e,b⟩:=h.2 i d;let⟨f,c⟩:=h.1;subst e;exact⟨g,0,rfl,c.lt g rfl,by rw[aV];exact b⟩
theorem i8.keep{w w':Ub}{H:Nat}{ia:Uy}{ic:Nat}{d:Vr}(h:i8 w H ia ic d)(k:YA H w.1.size w w'):i8 w' H ia ic d:=by
 let⟨f,a⟩:=h.1;refine⟨⟨f,Zl a λb e=>k b (a.lt b e).1 (a.lt b e).2⟩,λl j=>?_⟩;let⟨g,e,i⟩:=h.2 l j;subst e;have c:=a.lt g rfl;exact⟨g,rfl,i.keepS<|k g c.1 c.2⟩
theorem i8.push{w1 w2:Ub}{H:Nat}{ia:Uy}{ic:Nat}{a:Vr}(k:i8 w1 H ia ic a){f:Wo}(c:w1.ownsRow H 66 5 (.slice ia a.length ic) a.length f)(x:Yg){d e:Nat}(b:w2.ownsRow H 66 5 (Hl d (a.length+1) e) (a.length+1) (f++x.cells)):i8 w2 H (some ⟨d,0,none⟩) e (a++[x]):=by
 have u:=c.1;refine⟨⟨_,by rw[show(a++[x]).length=a.length+1 by simp];exact b⟩,λi r=>⟨d,rfl,?_⟩⟩;by_cases g:i<a.length
 .let⟨v,h,l,m,n,o,p⟩:=k.2 i g;subst h;rw[fA g];exact⟨(ki c b oM).trans l,(ki c b oM).trans m,(ki c b oM).trans n,(ki c b oM).trans o,(ki c b oM).trans p⟩
 have s:i=a.length:=by rw[aQ,List.length_singleton]at r;omega
 subst s;have e1:(a++[x])[a.length]=x:=sP;rw[e1];have q:=λ(j:Nat)(t:j<x.cells.length)=>pY (n:=a.length) u b (j:=j) t;exact⟨q 0 (by simp[Yg.cells]),q 1 (by simp[Yg.cells]),q 2 (by simp[Yg.cells]),q 3 (by simp[Yg.cells]),q 4<|by simp[Yg.cells]⟩
def nL(w:Ub)(H:Nat)(pa:Uy)(pc:Nat)(ia:Uy)(ic:Nat)(ps:Za)(is:Vr):Prop :=
 (is=[]/\ia=none/\ic=0/\ii w H pa pc ps)\/(is≠[]/\∃a,H<=a/\a<=w.1.size/\Jw w H a pa ps/\i8 w a ia ic is)
theorem nL.keep{w w':Ub}{H:Nat}{pa:Uy}{pc:Nat}{ia:Uy}{ic:Nat}{ps:Za}{is:Vr}(h:nL w H pa pc ia ic ps is)(k:YA H w.1.size w w')(a:w.1.size<=w'.1.size):nL w' H pa pc ia ic ps is:=by
 obtain⟨h1,h2,h3,h4⟩|⟨h1,H2,h2,h3,h4,h5⟩:=h;·exact bC ⟨h1,h2,h3,h4.keep k a⟩
 exact aZ ⟨h1,H2,h2,oM,h4.keepS<|k.mono aA h3,h5.keep<|k.mono h2 aA⟩
theorem nL.rows{w:Ub}{H:Nat}{pa:Uy}{pc:Nat}{ia:Uy}{ic:Nat}{ps:Za}{is:Vr}(h:nL w H pa pc ia ic ps is):Jw w H w.1.size pa ps/\YY w H w.1.size ia is:=by
 obtain⟨h1,h2,h3,h4⟩|⟨h1,H2,h2,h3,h4,h5⟩:=h
 .subst h1;exact⟨h4.phs,λi a=>absurd a sP⟩
 exact⟨h4.mono aA h3,h5.inss.mono h2<|aA⟩
def PI(w:Ub)(B0 U G:Nat)(pre:Wi):Prop:=∀i (h:i<pre.length),(∃L B,B0<=L/\B<=U/\¬(L<=G/\G<B)/\Tk w L B G (i*6) pre[i])/\pre[i].3.1≠0
structure im(w:Ub)(B0:Nat)(va:Uy)(vc:Nat)(pre:Wi):Prop where
 own:∃cs,w.ownsRow B0 60 6 (.slice va pre.length vc) pre.length cs
 clo:∀G,va=some ⟨G,0,none⟩->PI w B0 w.1.size G pre
 base:B0<=w.1.size
structure fk(w:Ub)(B0 H G vc:Nat)(pre:Wi)(pa:Uy)(pc:Nat)(ia:Uy)(ic:Nat)(ps:Za)(is:Vr):Prop where
 own:∃cs,w.ownsRow B0 60 6 (.slice (some ⟨G,0,none⟩) (pre.length+1) vc) (pre.length+1) cs
 clo:PI w B0 H G pre
 lo:(B0<=G/\G<H)/\B0<=H/\H<=w.1.size
 c0:w.cell? ⟨G,pre.length*6,none⟩=some (.slice pa ps.length pc)
 c1:w.cell? ⟨G,pre.length*6+1,none⟩=some (.slice ia is.length ic)
 ter:Va w G (pre.length*6+2) ⟨0,0,0,0⟩
 rows:nL w H pa pc ia ic ps is
theorem PI.keep{w w':Ub}{B0 U G:Nat}{pre:Wi}(h:PI w B0 U G pre)(k:∀b,B0<=b->b<U->b≠G->w'.1[b]?=w.1[b]?)(a:∀i,i<pre.length*6->w'.cell? (Hk G i)=w.cell? (Hk G i)){U':Nat}(s:U<=U'):PI w' B0 U' G pre:=λi g=>by
 let⟨⟨L,B,e,r,c,pa,pc,ia,ic,j,q1,⟨l,m,n,o⟩,q2,q3⟩,f⟩:=h i g;have d:YA L B w w':=λb p b2=>k b oM oM λq=>c oM;exact⟨⟨L,B,e,oM,c,pa,pc,ia,ic,(a _ oM).trans j,(a _ oM).trans q1,⟨(a _ oM).trans l,(a _ oM).trans m,(a _ oM).trans n,(a _ oM).trans o⟩,q2.keepS d,q3.keepS d⟩,f⟩
theorem im.keep{w w':Ub}{B0:Nat}{d:Uy}{vc:Nat}{pre:Wi}(h:im w B0 d vc pre)(k:YA B0 w.1.size w w')(j:w.1.size<=w'.1.size):im w' B0 d vc pre:=by
 let⟨f,a⟩:=h.1;have l:=h.3;refine⟨⟨f,Zl a λb e=>k b (a.lt b e).1 (a.lt b e).2⟩,λG e=>?_,oM⟩;subst e;have c:=a.lt G rfl;exact(h.2 G rfl).keep (λb g i _=>k b g i) (λm _=>Xc<|k G c.1 c.2) j
theorem fk.keep{w w':Ub}{B0 H G vc:Nat}{pre:Wi}{pa:Uy}{pc:Nat}{ia:Uy}{ic:Nat}{ps:Za}{is:Vr}(h:fk w B0 H G vc pre pa pc ia ic ps is)(k:YA B0 w.1.size w w')(i:w.1.size<=w'.1.size):fk w' B0 H G vc pre pa pc ia ic ps is:=by
 let⟨f,a⟩:=h.1;have c:=a.lt G rfl;have q:=k G c.1 c.2;let⟨j,d,n⟩:=h.3;exact⟨⟨f,Zl a λb e=>k b (a.lt b e).1 (a.lt b e).2⟩,h.2.keep (λb g l _=>k b g oM) (λm _=>Xc q) aA,⟨j,d,oM⟩,(Xc q).trans h.4,(Xc q).trans h.5,h.6.keepS q,h.7.keep (k.mono d<|aA) i⟩
theorem im.nil(w:Ub)(B0:Nat)(h:B0<=w.1.size):im w B0 none 0 []:=⟨⟨[],dA⟩,λ_ e=>(nomatch e),h⟩
theorem im.open_{w1 w2:Ub}{B0:Nat}{c:Uy}{vc:Nat}{pre:Wi}(n:im w1 B0 c vc pre){h:Wo}(d:w1.ownsRow B0 60 6 (.slice c pre.length vc) pre.length h){a g:Nat}(b:w2.ownsRow B0 60 6 (Hl a (pre.length+1) g) (pre.length+1) (h++[Hq,Hq,Hp 0,Hp 0,Hp 0,Hp 0]))(k:w1.grownBy w2 (Value.slice c pre.length vc).ownBlock)(t:(Value.slice c pre.length vc).ownBlock=some a\/a=w1.1.size):
 fk w2 B0 w2.1.size a g pre none 0 none 0 [] []:=by
 have M:=k.4;have I:=b.lt a rfl;have v:=d.1;have q:=λ(j:Nat)(f:j<6)=>pY (n:=pre.length) v b (j:=j) f;refine⟨⟨_,b⟩,λw u=>?_,oM,q 0 oM,q 1 oM,⟨q 2 oM,q 3 oM,q 4 oM,q 5 oM⟩,bC ⟨rfl,rfl,rfl,ii.nil _ _⟩⟩;let⟨G,E,e,J,K⟩:=d.form oM;obtain⟨rfl,-,rfl⟩:=Value.slice.inj e;let⟨⟨L,B,o,F,p,pa,pc,ia,ic,x,q1,⟨y,z,A,C⟩,q2,q3⟩,s⟩:=n.2 G rfl w u;have l:YA L B w1 w2:=λm D b2=>k.5 m oM (λe=>p<|by injection e with e;dsimp only at e;omega);have r:=λ(j:Nat)(f:j<pre.length*6)=>ki d b f;refine⟨⟨L,B,o,oM,?_,pa,pc,ia,ic,(r _ oM).trans x,(r _ oM).trans q1,⟨(r _ oM).trans y,(r _ oM).trans z,(r _ oM).trans A,(r _ oM).trans C⟩,q2.keepS l,q3.keepS l⟩,s⟩;obtain i|i:=t
 .have:G=a:=by injection i
  omega
 omega
section
variable {w1 w2: Ub} {B0 H G vc: Nat} {pre: Wi} {pa: Uy} {pc: Nat} {ia: Uy} {ic: Nat} {ps: Za} {is: Vr}
theorem fk.frame(h:fk w1 B0 H G vc pre pa pc ia ic ps is){row:Zm}(a:w1.grownBy w2 row)(l:∀b,row=some b->H<=b)(k:Nat)(w:pre.length*6<=k)(v:Uj):
 (∃d,(w2.setCell ⟨G,k,none⟩ v).ownsRow B0 60 6 (.slice (some ⟨G,0,none⟩) (pre.length+1) vc) (pre.length+1) d)/\PI (w2.setCell ⟨G,k,none⟩ v) B0 H G pre/\(∀i,i≠k->(w2.setCell ⟨G,k,none⟩ v).cell? ⟨G,i,none⟩=w1.cell? ⟨G,i,none⟩)/\(∀u,w1.cell? ⟨G,k,none⟩=some u->(w2.setCell ⟨G,k,none⟩ v).cell? ⟨G,k,none⟩=some v)/\(∀b,b≠G->(w2.setCell ⟨G,k,none⟩ v).1[b]?=w2.1[b]?)/\(w2.setCell ⟨G,k,none⟩ v).1.size=w2.1.size:=by
 let⟨d,g⟩:=h.1;let⟨⟨x,y⟩,z,A⟩:=h.3;have t:=a.4;have o:=g.lt G rfl;have nG:some G≠row:=λe=>by have:=l G e.symm;omega
 have c:=a.5 G o.2 nG;have f:∀b,b≠G->(w2.setCell (Hk G k) v).1[b]?=w2.1[b]?:=λb p=>Below.heap_setCell _ _ _ _ p;have m:∀i,i≠k->(w2.setCell (Hk G k) v).cell? (Hk G i)=w1.cell? (Hk G i):=λi j=>(cJ<|by intro e;injection e with _ e;exact j e.symm).trans (Xc c);refine⟨oS (Zl g λb e=>by injection e with e;dsimp only at e;subst e;exact c) k v,h.2.keep (λb r s n=>(f b n).trans (a.5 b oM λe=>by have:=l b e.symm;omega)) (λi j=>m i oM) aA,m,λu q=>?_,f,Xd⟩;exact fQ _ _ _<|(Xc c).trans q
theorem fk.phi(h:fk w1 B0 H G vc pre pa pc ia ic ps []){i:Wo}(k:w1.ownsRow H 62 2 (.slice pa ps.length pc) ps.length i)(p:Ph){a:Uy}{c:Nat}{d e:Nat}(ha:∀j (B:j<p.2.length),∃b o,a=some ⟨b,o,none⟩/\(H<=b/\b<w1.1.size)/\some b≠(Value.slice pa ps.length pc).ownBlock/\w1.cell? ⟨b,o+j,none⟩=some (.int .i64 p.2[j]))(n:w2.ownsRow H 62 2 (.slice (some ⟨d,0,none⟩) (ps.length+1) e) (ps.length+1) (i++[.int .i64 p.1,.slice a p.2.length c]))(g:w1.grownBy w2 (Value.slice pa ps.length pc).ownBlock)(q:(Value.slice pa ps.length pc).ownBlock=some d\/d=w1.1.size):
 fk (w2.setCell ⟨G,pre.length*6,none⟩ (.slice (some ⟨d,0,none⟩) (ps.length+1) e)) B0 H G vc pre (some ⟨d,0,none⟩) e ia ic (ps++[p]) []:=by
 obtain⟨⟨r,s⟩,t,C⟩:=h.3;have A:=g.4;obtain⟨f1,f2,f3,l,m,z⟩:=h.frame g (λb f=>(k.lt b f).1) (pre.length*6) aA (.slice (some ⟨d,0,none⟩) (ps.length+1) e);obtain⟨u,v,w,x⟩:=h.6;obtain⟨_,rfl,rfl,hr⟩|⟨f,_⟩:=h.7
 .refine⟨f1,f2,⟨⟨r,s⟩,t,oM⟩,by rw[show(ps++[p]).length=ps.length+1 by simp];exact l _ h.4,(f3 _ oM).trans h.5,⟨(f3 _ oM).trans u,(f3 _ oM).trans v,(f3 _ oM).trans w,(f3 _ oM).trans x⟩,bC ⟨rfl,rfl,rfl,?_⟩⟩;exact(hr.push k p ha n g q).keep (λb y b2=>m b oM) oM
 exact absurd rfl f
theorem fk.ins(h:fk w1 B0 H G vc pre pa pc ia ic ps is){H2:Nat}{f:Wo}(hH:H<=H2/\H2<=w1.1.size)(o:Jw w1 H H2 pa ps)(n:i8 w1 H2 ia ic is)(i:w1.ownsRow H2 66 5 (.slice ia is.length ic) is.length f)(x:Yg){c a:Nat}(m:w2.ownsRow H2 66 5 (.slice (some ⟨c,0,none⟩) (is.length+1) a) (is.length+1) (f++x.cells))(d:w1.grownBy w2 (Value.slice ia is.length ic).ownBlock):
 fk (w2.setCell ⟨G,pre.length*6+1,none⟩ (.slice (some ⟨c,0,none⟩) (is.length+1) a)) B0 H G vc pre pa pc (some ⟨c,0,none⟩) a ps (is++[x]):=by
 obtain⟨⟨p,q⟩,r,z⟩:=h.3;have y:=d.4;have j:=λb e=>i.lt b e;obtain⟨f1,f2,f3,l,g,w⟩:=h.frame d (λb e=>by have:=(j b e).1;omega) (pre.length*6+1) oM (.slice (some ⟨c,0,none⟩) (is.length+1) a);obtain⟨s,t,u,v⟩:=h.6;refine⟨f1,f2,⟨⟨p,q⟩,r,oM⟩,(f3 _ oM).trans h.4,by rw[show(is++[x]).length=is.length+1 by simp];exact l _ h.5,⟨(f3 _ oM).trans s,(f3 _ oM).trans t,(f3 _ oM).trans u,(f3 _ oM).trans v⟩,aZ ⟨sP,H2,hH.1,oM,o.keepS (λb k b2=>(g b oM).trans (d.5 b oM λe=>by have:=(j b e.symm).1;omega)),?_⟩⟩;exact(n.push i x m).keep λb k b2=>g b oM
theorem fk.insRow(h:fk w1 B0 H G vc pre pa pc ia ic ps is):∃a b,(H<=a/\a<=w1.1.size)/\Jw w1 H a pa ps/\i8 w1 a ia ic is/\w1.ownsRow a 66 5 (.slice ia is.length ic) is.length b:=by
 let⟨_,f,e⟩:=h.3;obtain⟨rfl,rfl,rfl,hr⟩|⟨_,a,h1,h2,h3,h4⟩:=h.7;·exact⟨w1.1.size,[],⟨e,aA⟩,hr.phs,⟨⟨[],dA⟩,λi d=>absurd d sP⟩,dA⟩
 let⟨b,c⟩:=h4.1;exact⟨a,b,⟨h1,h2⟩,h3,h4,c⟩
theorem fk.close(h:fk w1 B0 H G vc pre pa pc ia ic ps is)(t:Yj)(z:t.1≠0):im ((((w1.setCell ⟨G,pre.length*6+2,none⟩ (.int .i64 t.1)).setCell ⟨G,pre.length*6+2+1,none⟩ (.int .i64 t.a)).setCell ⟨G,pre.length*6+2+2,none⟩ (.int .i64 t.3)).setCell ⟨G,pre.length*6+2+3,none⟩ (.int .i64 t.4)) B0 (some ⟨G,0,none⟩) vc (pre++[⟨ps,is,t⟩]):=by
 let⟨⟨Q,R⟩,B,S⟩:=h.3;let⟨L,u⟩:=h.1;let⟨M,p⟩:=oS u (pre.length*6+2) (Hp t.1);let⟨N,q⟩:=oS p (pre.length*6+2+1) (Hp t.a);let⟨O,r⟩:=oS q (pre.length*6+2+2) (Hp t.3);let⟨o,s⟩:=oS r (pre.length*6+2+3) (Hp t.4);let⟨E,F,I,J⟩:=h.6;generalize a:((((w1.setCell (Hk G<|pre.length*6+2) (Hp t.1)).setCell (Hk G<|pre.length*6+2+1) (Hp t.a)).setCell (Hk G<|pre.length*6+2+2) (Hp t.3)).setCell (Hk G<|pre.length*6+2+3) (Hp t.4))=W at*;have far:∀b,b≠G->W.1[b]?=w1.1[b]?:=λb c=>by rw[<-a,Below.heap_setCell _ _ _ _ c,Below.heap_setCell _ _ _ _ c,Below.heap_setCell _ _ _ _ c,Below.heap_setCell _ _ _ _ c]
 have P:W.1.size=w1.1.size:=by rw[<-a];simp
 have f:∀i,i<pre.length*6+2->W.cell? (Hk G i)=w1.cell? (Hk G i):=λi g=>by
  have d:∀k,i≠k->∀(U:Ub)(v:Uj),(U.setCell (Hk G k) v).cell? (Hk G i)=U.cell? (Hk G i):=λk x U v=>cJ (by intro e;injection e with _ e;exact x e.symm);rw[<-a,d _ oM,d _ oM,d _ oM,d _ oM]
 have A:Va W G (pre.length*6+2) t:=by
  rw[<-a];refine⟨?_,?_,?_,?_⟩<;>simp[E,F,I,J,go_sem]
 have y:(pre++([⟨ps,is,t⟩]:Wi)).length=pre.length+1:=sP;refine⟨⟨o,y▸s⟩,λK e=>?_,oM⟩;injection e with e;injection e with e;subst e;intro i g;by_cases j:i<pre.length
 .rw[fA j];exact(h.2.keep (w':=W) (λb m b2 n=>far b n) (λi g=>f i oM) (U':=W.1.size) oM) i j
 have w:i=pre.length:=oM;subst w;have e1:(pre++([⟨ps,is,t⟩]:Wi))[pre.length]=⟨ps,is,t⟩:=sP;rw[e1];let⟨C,D⟩:=h.7.rows;have l:YA H w1.1.size w1 W:=λb m b2=>far b oM;refine⟨⟨H,w1.1.size,B,oM,oM,pa,pc,ia,ic,(f _ oM).trans h.4,(f _ oM).trans h.5,A,C.keepS l,D.keepS l⟩,z⟩
end
theorem im.blks{w:Ub}{B0:Nat}{a:Uy}{vc:Nat}{pre:Wi}(h:im w B0 a vc pre):Xp w B0 w.1.size a pre:=λk j=>by
 let⟨m,i⟩:=h.1;let⟨G,l,e,d,f⟩:=i.form oM;obtain⟨rfl,-,rfl⟩:=Value.slice.inj e;let⟨⟨L,B,b,c,_,g⟩,_⟩:=h.2 G rfl k j;exact⟨G,0,rfl,⟨d,f⟩,by rw[aV];exact g.mono b c⟩
end
structure NX where
 pre:Wi
 cur:Option (Za×Vr)
def jt(a:Vw):Ph:=⟨Gb<|a.getD 1 [],(a.drop 2).map Gb⟩
def dh(s:NX)(F:List UInt8)(a:List (List UInt8)):Option NX :=
 if F=eh then (match s.2 with|some _=>none|none=>some ⟨s.1,some ([],[])⟩)
 else match s.2 with
  |none=>none
  |some (ps,is)=>
   if F=fm then (if is=[]then some ⟨s.1,some (ps++[jt a],is)⟩else none)
   else if jx F=true then some ⟨s.1++[⟨ps,is,Y4 a⟩],none⟩
   else some ⟨s.1,some (ps,is++[T1 a])⟩
def je(s:NX)(a:Vw):Option NX:=dh s (a.headD []) a
inductive Ln where
 |bad:Int->Ln
 |ok:NX->Ln
def bk(s:NX)(a:Wn):Ln :=
 if Bf a=[]then .bad 4 else if C0 (Bf a)≠0 then .bad (C0<|Bf a)else match je s (Bf a)with|none=>.bad 8|some b=>.ok b
inductive Bd where
 |bad:Int->Nat->Bd
 |ok:NX->Bd
def dy:List (List UInt8)->Nat->NX->Bd
 |[],_,s=>.ok s
 |l::ls,i,s=>match bk s l with|.bad c=>.bad c (i+1)|.ok s'=>dy ls (i+1) s'
structure jg where
 code:Int
 line:Nat
 fn:Fn
def au(c:Int)(l:Nat):jg:=⟨c,l,⟨0,[]⟩⟩
def sT:Wn:=[102,117,110,99]
def nQ(a:Wn):Option Int :=
 if (Bf a).length=2/\(Bf a).getD 0 []=sT/\0<=Gb ((Bf a).getD 1 [])then some (Gb<|(Bf a).getD 1 [])else none
def mi(n:Nat)(V:Int)(b:Bd):jg:=match b with
 |.bad c l=>au c l
 |.ok s=>match s.2 with
  |some _=>au 8 n
  |none=>if iu ⟨V,s.1⟩=true then ⟨0,0,⟨V,s.1⟩⟩else au 9 0
def Fa(a:Wn):Vw:=C3 a.dropLast 10
def p8(ls:List (List UInt8))(o:Option Int):jg:=match o with
 |none=>au 3 1
 |some V=>mi ls.length V<|dy ls.tail 1 ⟨[],none⟩
def C2(a:Wn):jg :=
 if 100000<a.length then au 1 0 else if a.getLast?≠some 10 then au 2 0 else p8 (Fa a) (nQ<|(Fa a).headD [])
def TT(s:NX):Nat:=s.pre.length+Xx s.pre+(match s.cur with|none=>0|some (ps,is)=>1+ps.length+JG ps+is.length)
theorem sf(b:Wn):(Bf b).length<=b.length:=by
 unfold Bf;split
 .rename_i h
  have g:∀(r a:Wn),(am 32 a r).all Y3=true->(am 32 a r).length<=a.length+r.length:=by
   intro r
   induction r with
   |nil=>
    intro a h;simp only[am,List.all_cons,List.all_nil,Bool.and_true,Y3,bY,bD]at h;simp only[am,bA,bO];omega
   |cons c r d=>
    intro a h;rw[am]at h |-;split at h
    .rename_i e;rw[aU e];rw[List.all_cons,bY]at h;have f:=h.1;simp only[Y3,bY,bD]at f;have:=d [] h.2;simp only[bA,bO]at this |-;omega
    rename_i e;rw[aM e];have:=d _ h;simp only[aQ,bA,bO]at this |-;omega
  have:=g b [] h;simpa [C3]using this
 simp
theorem KG(b:Wn):∀f∈Bf b,f.length<=b.length:=λf a=>by
 unfold Bf at a;split at a;·have:=kh 32 b [] f a;simpa using this
 cases a
theorem Lh{a:Vw}(n:0<a.length)(c:C0 a=0):
 (a.headD []=eh/\a.length=1)\/(a.headD []=fm/\3<=a.length)\/(jx (a.headD [])=true/\((a.headD []=fg/\a.length=2)\/(a.headD []=ew/\a.length=2)\/(a.headD []=Vn/\a.length=4))/\a.headD []≠eh/\a.headD []≠fm) \/
 ((1<=D2 (a.headD [])/\D2 (a.headD [])<=10)/\a.length=1+(Kz<|D2 (a.headD [])).size/\jx (a.headD [])=false/\a.headD []≠eh/\a.headD []≠fm/\(D2 (a.headD [])=1->∀f,a[2]?=some f->NM f=true)):=by
 have b:a.length=NJ (a.headD []) a.length/\gu a (a.length-1)=true:=by
  unfold C0 at c;split at c;·cases c
  split at c;·cases c
  rename_i j k;split at c;·rename_i d;exact⟨oM,d⟩
  cases c
 let⟨b,l⟩:=b;by_cases h:D2 (a.headD [])=0
 .unfold NJ at b;rw[aM λq=>q h]at b;by_cases e1:a.headD []=eh;·rw[aU e1]at b;exact bC ⟨e1,b⟩
  rw[aM e1]at b;by_cases e2:a.headD []=fg;·rw[aU e2]at b;exact aZ<|aZ (bC ⟨by rw[e2];decide,bC ⟨e2,b⟩,e1,by rw[e2];decide⟩)
  rw[aM e2]at b;by_cases e3:a.headD []=ew;·rw[aU e3]at b;exact aZ<|aZ (bC ⟨by rw[e3];decide,aZ<|bC ⟨e3,b⟩,e1,by rw[e3];decide⟩)
  rw[aM e3]at b;by_cases e4:a.headD []=Vn;·rw[aU e4]at b;exact aZ<|aZ (bC ⟨by rw[e4];decide,aZ<|aZ ⟨e4,b⟩,e1,by rw[e4];decide⟩)
  rw[aM e4]at b;by_cases e5:a.headD []=fm
  .rw[aU e5]at b;refine aZ<|bC ⟨e5,?_⟩;split at b<;>omega
  rw[aM e5]at b;omega
 let⟨j,k,d,o,p,r⟩:=oL h;unfold NJ at b;rw[aU h]at b;refine aZ<|aZ (aZ ⟨j,b,?_,k,r,λt f e=>?_⟩)
 .have i:jx (a.headD [])=(a.headD []==fg||a.headD []==Vn||a.headD []==ew):=rfl;rw[i];generalize a.headD []=F at*;simp[d,o,p]
 have u:2<a.length:=by
  obtain q|q:=mL 2 a.length;·exact q
  rw[dK q]at e;cases e
 have g:jw a 2 f=true:=by
  unfold gu at l;have:=dV.1 l 1 (by simp;omega);rw[e]at this;exact this
 have s:a.head?=some fw:=by
  cases a with
  |nil=>simp at n
  |cons x w=>
   have i:D2 x=1:=t;obtain q|⟨m,_,_,q3,q4⟩:=oH x 10 1;·exact absurd q<|by show D2 x≠0;omega
   have v:D2 x=m:=q3;have:m=1:=oM;subst this;show some x=some fw;rw[<-q4];rfl
 unfold jw at g;rw[aU ⟨s,rfl⟩]at g;exact g
theorem sw{s e:NX}{b:Wn}(h:bk s b=.ok e):TT e<=TT s+b.length:=by
 unfold bk at h;split at h;·cases h
 split at h;·cases h
 rename_i f d;have d:C0 (Bf b)=0:=by
  obtain q|q:=Decidable.em (C0 (Bf b)=0);·exact q
  exact absurd q d
 have i:0<(Bf b).length:=by
  cases hf:Bf b with
  |nil=>exact absurd hf f
  |cons x r=>simp
 have j:=sf b;generalize Bf b=g at*;split at h;·cases h
 rename_i s2 a;injection h with h;subst h;unfold je dh at a;split at a
 .split at a;·cases a
  rename_i c;injection a with a;subst a;simp only[TT,c];simp[JG];omega
 split at a;·cases a
 rename_i l k c;split at a
 .split at a
  .injection a with a;subst a;simp only[TT,c,aQ,List.length_singleton,Lg,jt,bK,mF];omega
  cases a
 split at a
 .injection a with a;subst a;simp only[TT,c,aQ,List.length_singleton,Vm,ZZ];omega
 injection a with a;subst a;simp only[TT,c,aQ,List.length_singleton];omega
def Tn(ls:Vw):Nat:=(ls.map λl=>l.length).sum
theorem pT(sep:UInt8):∀(r a:Wn),Tn (am sep a r)<=a.length+r.length
 |[],a=>by simp[am,Tn]
 |c::r,a=>by
  rw[am];split
  .have:=pT sep r [];simp only[Tn,eH,kX,bA,bO]at this |-;omega
  have:=pT sep r<|a++[c];simp only[Tn,aQ,bA,bO]at this |-;omega
theorem JP{a:Vw}:(Y4 a).1≠0:=by
 unfold Y4;split;·simp
 split<;>simp
def gw(w:World)(a:Nat)(b:Option Addr)(n c:Nat)(s:NX):Prop :=
 match s.2 with
 |none=>n=s.1.length/\im w a b c s.1
 |some (ps,is)=>∃H G f g d e,b=some ⟨G,0,none⟩/\n=s.1.length+1/\fk w a H G c s.1 f g d e ps is
theorem gw.keep{w':Ub}{s:NX}(h:gw w n p m k s)(b:YA n w.1.size w w')(a:w.1.size<=w'.1.size):gw w' n p m k s:=by
 unfold gw at h |-;split at h;·exact⟨h.1,h.2.keep b a⟩
 let⟨H,G,i,j,f,g,c,d,e⟩:=h;exact⟨H,G,i,j,f,g,c,d,e.keep b a⟩
theorem gw.len{s:NX}(h:gw w n p m k s):m<=TT s:=by
 let⟨j,a⟩:=s
 match a,h with
 |none,h=>have:=h.1;simp only[TT];dsimp only at this;omega
 |some (ps,is),h=>
  let⟨H,G,g,i,e,f,c,b,d⟩:=h;simp only[TT];dsimp only at b;omega
theorem gw.start(w:Ub)(a:Nat)(h:a<=w.1.size):gw w a none 0 0 ⟨[],none⟩:=⟨rfl,im.nil w a h⟩
def nN(w:Ub)(L B:Nat)(val:Uj)(o:jg):Prop:=∃a b,val=.agg #[.int .i64 o.1,.int .i64 o.2,.int .i64 o.3.1,.slice a o.3.2.length b]/\Xp w L B a o.3.2
section
def RZ(w:Ub)(r:Nat):Prop:=(w.cell? ⟨r,0,none⟩=some (.int .i64 0)/\w.cell? ⟨r,1,none⟩=some (.int .i64 0)/\w.cell? ⟨r,2,none⟩=some (.int .i64 0)/\w.cell? ⟨r,3,none⟩=some (.slice none 0 0))/\∀o,w.frozen? ⟨r,o,none⟩=false
theorem RZ.keep{w a:Ub}{r:Nat}(h:RZ w r)(k:a.1[r]?=w.1[r]?):RZ a r :=
 ⟨⟨(Xc k).trans h.1.1,(Xc k).trans h.1.2.1,(Xc k).trans h.1.2.2.1,(Xc k).trans h.1.2.2.2⟩,λo=>(bJ k).trans (h.2 o)⟩
theorem RZ.new(w:Ub)(t:Nat):RZ (w.alloc<|.cells #[.int .i64 0,.int .i64 0,.int .i64 0,.slice none 0 0] t) w.1.size:=by
 refine⟨⟨?_,?_,?_,?_⟩,λo=>?_⟩<;>simp[go_sem]
theorem gm{w:Ub}{L B:Nat}{c:Int}{l:Nat}{a:Int}(h:a=l):nN w L B (.agg #[Hp c,Hp a,Hp 0,Hq]) (au c l):=by
 subst h;exact⟨none,0,rfl,λi b=>absurd b<|by simp[au]⟩
def kj(w:Ub)(r:Nat)(a v1 v2 v3:Uj):Ub:=(((w.setCell ⟨r,0,none⟩ a).setCell ⟨r,1,none⟩ v1).setCell ⟨r,2,none⟩ v2).setCell ⟨r,3,none⟩ v3
theorem Y1{B:Nat}{w W:Ub}(h:Below B w W){r:Nat}(a:B<=r){b v1 v2 v3:Uj}:Below B w (kj W r b v1 v2 v3):=(((h.setCell a _).setCell a _).setCell a _).setCell a _
theorem LL{W:Ub}{r b:Nat}(a:b≠r)(c v1 v2 v3:Uj):(kj W r c v1 v2 v3).1[b]?=W.1[b]?:=by
 unfold kj;rw[Below.heap_setCell _ _ _ _ a,Below.heap_setCell _ _ _ _ a,Below.heap_setCell _ _ _ _ a,Below.heap_setCell _ _ _ _ a]
theorem Lr{W:Ub}{r:Nat}{a v1 v2 v3:Uj}:(kj W r a v1 v2 v3).1.size=W.1.size:=by unfold kj;simp
theorem sr{ls:Vw}{l:Wn}:Tn (ls++[l])=Tn ls+l.length:=by simp[Tn]
structure fd(w:Ub)(F0:Nat)(V:Int)(ls:Vw)(la:Uy)(L3 B3:Nat)(OUT:jg)(k:Nat)(s:NX)(va:Uy)(vn vc:Nat)(wr:Ub):Prop where
 below:Below w.1.size w wr
 rv:RZ wr w.1.size
 f0:wr.cell? ⟨F0,0,none⟩=some (.int .i64 V)
 f1:wr.cell? ⟨F0,1,none⟩=some (.slice va vn vc)
 fz:∀o,wr.frozen? ⟨F0,o,none⟩=false
 lines:Zx wr L3 B3 la (KC ls)
 st:gw wr (F0+1) va vn vc s
 lo:w.1.size<F0/\B3<=F0/\F0<wr.1.size
 tot:TT s<=Tn (ls.take k)
 run:mi ls.length V (dy (ls.drop k) k s)=OUT
section
variable {w: Ub} {F0: Nat} {V: Int} {ls: Vw} {la: Uy} {L3 B3: Nat} {OUT: jg} {k: Nat} {s s': NX} {va va': Uy} {vn vc vn' vc': Nat} {wr wN: Ub}
theorem fd.next(h:fd w F0 V ls la L3 B3 OUT k s va vn vc wr)(a:Below F0 wr wN)(l:F0<wN.1.size)(g:wN.cell? (Hk F0 0)=some (Hp V))(f1:wN.cell? (Hk F0 1)=some (.slice va' vn' vc'))(i:∀o,wN.frozen? (Hk F0 o)=false)(j:gw wN (F0+1) va' vn' vc' s')(b:k<ls.length)(d:bk s ls[k]=.ok s'):
 fd w F0 V ls la L3 B3 OUT (k+1) s' va' vn' vc' wN:=by
 let⟨e,f,p⟩:=h.8;have m:=sw d;have n:=h.9;refine⟨h.1.trans<|a.mono oM,h.2.keep<|a.5 _ e,g,f1,i,h.6.keepS<|YA.of_below (a.mono f),j,⟨e,f,l⟩,?_,?_⟩
 .have:Tn (ls.take<|k+1)=Tn (ls.take k)+ls[k].length:=by rw[X7 b,sr]
  omega
 have c:=h.10;rw[gZ b,dy,d]at c;exact c
theorem fd.bad(h:fd w F0 V ls la L3 B3 OUT k s va vn vc wr)(b:k<ls.length){c:Int}(d:bk s ls[k]=.bad c):OUT=au c (k+1):=by
 have a:=h.10;rw[gZ b,dy,d]at a;exact a.symm
theorem fd.calm(h:fd w F0 V ls la L3 B3 OUT k s va vn vc wr)(a:Below wr.1.size wr wN):fd w F0 V ls la L3 B3 OUT k s va vn vc wN:=by
 let⟨e,f,g⟩:=h.8;have d:=a.4;have q:=a.5 F0 g;exact⟨h.1.trans<|a.mono oM,h.2.keep<|a.5 _ oM,(Xc q).trans h.3,(Xc q).trans h.4,λo=>(bJ q).trans (h.5 o),h.6.keepS<|YA.of_below (a.mono oM),h.7.keep (λb _ c=>a.5 b c) d,⟨e,f,oM⟩,h.9,h.10⟩
end
theorem oJ(ls:Vw)(k:Nat):Tn (ls.take k)<=Tn ls:=Tw _ _ _
end
theorem JU{b:Wn}(j:n=b.length)(q:100000<n)(r:n<=9223372036854775807):
 Calls prog 12 #[.slice p n c] w λe d=>∃val,e=.returned val/\Below w.1.size w d/\nN d w.1.size d.1.size val (C2 b):=by
 have h:Hs (C2 b=au 1 0):=Xa (by unfold C2;rw[aU oM]);have f:=λt=>Xa<|Xb (Below.refl w.1.size w) (.cells #[Hp 0,Hp 0,Hp 0,Hq] t);have i:=λt=>Xa<|RZ.new w t
 go_in
 go_wp2_with (go_at_call 24;refine(Y2).mono ?_;rintro e s⟨rfl,a⟩;let⟨⟨k,l,m,o⟩,rz⟩:=(i _).keep (a.5 _ sP);have g:=Xa<|Xg (f _).o a;clear a)
 exact cC (v:=.agg #[Hp 1,Hp 0,Hp 0,Hq]) (by simp[results,results12,go_sem,k,l,m,o]) rfl ⟨_,rfl,Y1 g<|aA,by rw[h.o];exact gm rfl⟩
theorem JH{a:Wn}(ha:Hs (Yx w m k p a))(f:Hs (n=a.length))(C:n<=100000)(z:k<=w.1.size)(l:Hs (a.getLast?≠some 10)):
 Calls prog 12 #[.slice p n c] w λe g=>∃val,e=.returned val/\Below w.1.size w g/\nN g w.1.size g.1.size val (C2 a):=by
 have q:Hs (C2 a=au 2 0):=Xa (by have:=f.o;unfold C2;rw[aM oM,aU l.o]);have h:=λt=>Xa<|Xb (Below.refl w.1.size w) (.cells #[Hp 0,Hp 0,Hp 0,Hq] t);have r:=λt=>Xa<|RZ.new w t;by_cases i:n=0
 focus
  subst i
 rotate_left
 focus
  have D:1<=n:=oM;have d:n-1<a.length:=oN f.o
  obtain⟨y,F,rfl,⟨_,A⟩,j⟩:=ha (n-1) d;have E:((a[n-1].toNat:Int) != 10)=true:=by
   rw[jJ];intro e;apply l;rw[List.getLast?_eq_getElem?,show a.length-1=n-1 by have:=f.o;omega,aC d];congr 1;exact UInt8.toNat_inj.1<|by show a[n-1].toNat=10;omega
  have B:=λt=>oB (h t) j oM;generalize a[n-1].toNat=T at*
 all_goals (
  go_in
  go_wp2_with (go_at_call 24;refine(Y2).mono ?_;rintro e G⟨rfl,b⟩;let⟨⟨s,u,v,x⟩,rz⟩:=(r _).keep (b.5 _ sP);have o:=Xa<|Xg (h _).o b;clear b)
  exact cC (v:=.agg #[Hp 2,Hp 0,Hp 0,Hq]) (by simp[results,results12,go_sem,s,u,v,x]) rfl ⟨_,rfl,Y1 o<|aA,by rw[q.o];exact gm rfl⟩)
end Go.Proofs.YtcfdhbigppockaaGreatDoor
