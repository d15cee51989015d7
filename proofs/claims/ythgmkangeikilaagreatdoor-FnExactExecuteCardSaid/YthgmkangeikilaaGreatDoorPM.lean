import Derived.Test.YthgmkangeikilaaGreatDoorPL
import Derived.Stop.Asserts
namespace Go.Proofs.YthgmkangeikilaaGreatDoor
set_option maxHeartbeats 40000000
set_option maxRecDepth 100000
open _root_ renaming Array.size->Z,List.length->J,Nat->N,Int->I,rfl->R,Option.some->S,Bool.true->So,Bool.false->Sn,Option.none->U,absurd->Sz,trivial->JV
open Go renaming World.cell?->E,World.setCell->Se,Ending.returned->Rt,RowKit.Below->Sw,Calls->Sk,World.alloc->D,IntKind.i64->S6,Obj.cells->Sc,RowKit.intOf->JB,World.ownsRow->Sx,results->JC
open Value renaming slice->X,agg->Sa,string->Sg,int->Si,bool->Sb,tuple->St,pointer->Sj
open Go.RowKit Go.Proofs.Tryz Go.Shelf
variable{r:Bool}{t T:I}{n m k B g i j c:N}{w v u:Ub}{a A_:Uj}{p P:Uy}{h:Vu}{l:Wc}{x:Wi}{y:Wo}
structure Nq(w:Ub)(R_:N)(wd:Uj)(V:I)(B0:N)(s:NX)(va:Uy)(vn vc:N):Prop where
 rd:nW w R_ wd V va vn vc s.2.isSome
 st:gw w B0 va vn vc s
 fz:∀o,w.frozen? ⟨R_,o,U⟩=Sn
 lo:R_<B0/\B0<=Z w.1
theorem tc(w:Ub)(o):(D w o).1[Z w.1]?=S o:=by show(w.1.push o)[Z w.1]?=S o;simp
theorem Qm:(prog.info? 81).map (λi=>(i.8,i.3,i.4))=S (S<|Sa #[Hq,Hq,H 0,H 0,H 0,H 0],6,80):=vZ
theorem Qn:(prog.info? 83).map (λi=>(i.8,i.3,i.4))=S (S<|Sa #[H 0,Hq],2,32):=vZ
theorem nW.keep{w'}(h:nW w n a t p m c r)(k:w'.1[n]?=w.1[n]?):nW w' n a t p m c r:=⟨G (Xc k) h.1,G (Xc k) h.2,G (Xc k) h.3,G (Xc k) h.4⟩
theorem Nq.keep{w':Ub}{s}(h:Nq w n a t m s p k B)(b:Sw (Z w.1) w w'):Nq w' n a t m s p k B:=by let⟨f,g⟩:=h.4;have e:=b.4;have q:=b.5 n O;exact⟨h.1.keep q,h.2.keep (λc _ d=>b.5 c d) e,λo=>G (bJ q) (h.3 o),⟨f,O⟩⟩
theorem Kb.low'(d:v.4=w.4)(g:v.2=w.2)(e:v.5=w.5)(f:Z w.1<=Z v.1)(h:∀b,b<n->b≠m->v.1[b]?=w.1[b]?):Kb n m m w v:=⟨d,g,e,f,λb a c _=>h b a c⟩
theorem LV(V)(na:Uy)(nn nc)(h:Q (Nq w n a t m ⟨x,U⟩ p k B))(a2:k<=100000):
 Sk prog 200 #[Hn n,Nv 0 V,X na nn nc] w λe W=>e=Rt (St #[])/\∃az a1 a0,Nq W n a t m ⟨x,S ([],[])⟩ az a1 a0/\Kb m n n w W:=by
 let⟨q,u⟩:=h.2;dsimp only at q u;let⟨K,v⟩:=u.1;let⟨Q_,a3⟩:=h.4;have aa:n<Z w.1:=O;have z:=λc=>Xb (dC (Z w.1) w) c;have c2:=λc=>oB (z c) h.1.3 aa
 have H_:Q (∀c F,Sx (D (D w c) F) m 81 6 (X p k B) k K):=Y (λc F=>by rw[q];exact Zl v λb e=>(Xb (z c) F).5 b (v.lt b e).2);have X_:Q (∀c j f g d,Sx d m 81 6 (Hl f (k+1) g) (k+1) (K++[Hq,Hq,H 0,H 0,H 0,H 0])->(D (D w c) (Sc #[Hq,Hq,H 0,H 0,H 0,H 0] j)).grownBy d (X p k B).ownBlock->((X p k B).ownBlock=S f\/f=Z w.1+1+1)->E d (A n 2)=S (X p k B)/\E d (A n 3)=S (Sb Sn)/\(∀o,d.frozen? (A n o)=Sn)/\Nq (Se (Se d (A n 2) (Hl f (k+1) g)) (A n 3) (Sb So)) n a t m ⟨x,S ([],[])⟩ (S ⟨f,0,U⟩) (k+1) g/\Kb m n n w (Se (Se d (A n 2) (Hl f (k+1) g)) (A n 3) (Sb So))):=Y (λc j f g d M_ i l=>by
  have b2:=Xb (z c) (Sc #[Hq,Hq,H 0,H 0,H 0,H 0] j);have e2:Z (D (D w c) (Sc #[Hq,Hq,H 0,H 0,H 0,H 0] j)).1=Z w.1+1+1:=sP;have ad:=i.4;rw[e2]at ad;have ac:=u.keep (w':=D (D w c) (Sc #[Hq,Hq,H 0,H 0,H 0,H 0] j)) (λb _ s=>b2.5 b s) O;have L:=H_ c<|Sc #[Hq,Hq,H 0,H 0,H 0,H 0] j;rw[q]at L M_ i l |-;have ab:=ac.open_ L M_ i (by rw[e2];exact l);have low:∀b,b<m->d.1[b]?=w.1[b]?:=λb C=>G (i.5 b O λe=>by have:=(L.lt b e.symm).1;omega) (b2.5 b O);have r:=low n Q_;have q2:=G (Xc (o:=2) r) h.1.3;rw[q]at q2;have q3:=G (Xc (o:=3) r) h.1.4;have S_:=λo=>G (bJ (a:=(A n o)) r) (h.3 o);have T_:∀b,b≠n->(Se (Se d (A n 2) (Hl f (J x+1) g)) (A n 3) (Sb So)).1[b]?=d.1[b]?:=λb C=>G (cY C) (cY C);have XL:∀(M:Ub)(P y:N)(V_:Uj),P≠y->E (Se M (A n P) V_) (A n y)=E M (A n y):=λM P y V_ aj=>cJ (by intro e;injection e with _ e;exact aj e);refine⟨q2,q3,S_,⟨⟨?_,?_,?_,?_⟩,?_,λo=>?_,⟨Q_,SB⟩⟩,Kb.low' i.1 i.2 i.3 SB λb J_ s=>G (T_ b s) (low b J_)⟩;·rw[XL _ _ _ _ vY,XL _ _ _ _ vY];exact G (Xc r) h.1.1
  .rw[XL _ _ _ _ vY,XL _ _ _ _ vY];exact G (Xc r) h.1.2
  .rw[XL _ _ _ _ vY];exact fQ _ _ _ q2
  .exact fQ _ _ _<|G (XL _ _ _ _ vY) q3
  .exact⟨_,f,_,_,_,_,R,R,ab.keep (λb J_ s=>T_ b O) sP⟩
  rw[eX,eX];exact S_ o)
 let⟨i0,af,ap,aq,ar⟩:=fX Qm;have ao:(k=0/\True)\/∃T,p=S (A T 0):=by
  obtain⟨e,h0⟩|⟨T,_,_,e,_⟩:=v.2;·exact bC ⟨O,JV⟩
  right;injection e with e;exact⟨T,e⟩
 clear u v q ao;unfold Nv
 go_in
 go_wp2_with (at_builtin;refine wpList_append_lies _ R _ _ 43 R m 81 i0 (Sa #[Hq,Hq,H 0,H 0,H 0,H 0]) 6 80 underlying43 af ap aq ar R vY (X p k B) k K SE (H_ _ _) (A (Z w.1+1) 0) 1 1 [Hq,Hq,H 0,H 0,H 0,H 0] SE R (XE (by have R_:=tc (D w<|Sc #[H 0,H V] 274) (Sc #[Hq,Hq,H 0,H 0,H 0,H 0] 81);rw[aO]at R_;exact R_)) (by intro a4 P_;simp at P_;obtain rfl|rfl:=P_<;>rfl) vY SD O SB (Z w.1+1+1) sP ?_;intro f g d N_ K_ l al;let⟨d2,d3,dz,O_,L_⟩:=X_ _ _ _ _ _ N_ K_ l;have Z_:=Y O_;have Y_:=Y L_;clear N_ K_ l al O_ L_)
 exact uT (v:=St #[]) (by simp[JC,results200,go_sem]) R ⟨R,_,_,_,Z_,Y_⟩
theorem MH{d}(af)(s:Q (Nq w n a t m ⟨x,S (d,[])⟩ p k B))(y:Q (Sw (Z w.1) w v))(b7:k<=100000)(b6:J d<=100000)(Q_:Q (j=J l))(b4:2<=j)(b5:j<=1000000)(b0:j<=c)(U_:Q (Xf v (Z w.1) (Z v.1) (S ⟨g,i,U⟩) l)):
 Sk prog 200 #[Hn n,Nv 1 af,Hm g i j c] v λe M=>e=Rt (St #[])/\∃bn bp bo,Nq M n a t m ⟨x,S (d++[⟨l.getD 0 0,l.tail⟩],[])⟩ bn bp bo/\Kb m n n v M:=by
 let⟨J_,K,F,P,ia,ic,V_,a2,M_⟩:=s.2;dsimp only at a2 M_;let⟨bm,cd⟩:=s.4;have bb:=y.4;let⟨⟨b8,ca⟩,cb,cc⟩:=M_.3;have R_:=s.keep y;have K_:=Y (M_.keep (w':=v) (λb _ O_=>y.5 b O_) bb);have ad:=Y (by obtain⟨_,_,_,s⟩|⟨s,_⟩:=M_.7;exact s;exact Sz R s);let⟨S_,T⟩:=ad.1;let⟨p0,p1⟩:v.cell? (A g i)=S (H<|l.getD 0 0)/\Z w.1<=g/\g<Z v.1:=by let⟨b',o',e,u,T_⟩:=U_ 0<|oN Q_.o;cases e;exact⟨G T_ (by have:=Q_.o;simp[show 0<J l by omega]),u⟩
 have al:n<Z v.1:=O;have aj:K<Z v.1:=O;have C:=λh=>Xb (dC (Z v.1) v) h
 have HM:Q (J x=k-1):=Y O;let⟨o,N_⟩:∃o,J x=o:=⟨_,R⟩;have X_:k=o+1:=O;have a7:Q (∀h,Sk prog 221 #[Hn n] (D v h) λe M=>e=Rt (Ho K<|o*6)/\M=(D v h).drew):=Y (λh=>pP n a t K o B So (D v h) (by have u:=(R_.1.keep<|(C h).5 n al);rw[V_,X_]at u;exact u) O)
 have aa:Q (∀W,Sw (Z v.1) v W->Sx W J_ 83 2 (X F (J d) P) (J d) S_):=Y λW f=>Zl T λb e=>G (f.5 b<|oN ((T.lt b e).2)) (y.5 b (T.lt b e).2);have ac:Q (∀W,Sw (Z v.1) v W->E W (A K<|o*6)=S (X F (J d) P)):=Y (λW f=>G (f.cell (p:=A K<|o*6) aj) (by rw[<-N_];exact K_.4));have a5:Q (∀W r V q,Sw (Z v.1) v W->Sx q J_ 83 2 (Hl r (J d+1) V) (J d+1) (S_++[H<|l.getD 0 0,Hm g (i+1) (j-1) (c-1)])->W.grownBy q (X F (J d) P).ownBlock->((X F (J d) P).ownBlock=S r\/r=Z W.1)->E q (A K<|o*6)=S (X F (J d) P)/\(∀L,q.frozen? (A K L)=Sn)/\E q (A g i)=S (H<|l.getD 0 0)/\Nq (Se q (A K<|o*6) (Hl r (J d+1) V)) n a t m ⟨x,S (d++[⟨l.getD 0 0,l.tail⟩],[])⟩ (S ⟨K,0,U⟩) (o+1) B/\Kb m n n v (Se q (A K<|o*6) (Hl r (J d+1) V))):=Y (λW r V q f ho z P_=>by
  have a9:=f.4;have b3:=z.4;have ao:=aa W f;have ba:=K_.keep (w':=W) (λb _ O_=>f.5 b O_) a9;have bf:J l.tail=j-1:=by rw[List.length_tail,<-Q_.o]
  have aq:=ba.phi ao ⟨l.getD 0 0,l.tail⟩ (a:=S<|A g (i+1)) (c:=c-1) (λY_ hj=>by let⟨b',o',e,u,T_⟩:=(U_.keep<|f.mono aA) (Y_+1) (by rw[List.length_tail]at hj;omega);cases e;refine⟨g,i+1,R,O,λe2=>by have:=(T.lt g e2.symm).2;omega,?_⟩;rw[show i+1+Y_=i+(Y_+1) by omega,T_];simp) (by dsimp only;rw[bf];exact ho) z P_
  rw[N_]at aq;have low:∀b,b<J_->q.1[b]?=W.1[b]?:=λb h1=>z.5 b O (λe=>by have:=(ao.lt b e.symm).1;omega);have kG:=G (low K O) (f.5 K aj);have far:∀b,b≠K->(Se q (A K<|o*6) (Hl r (J d+1) V)).1[b]?=q.1[b]?:=λb y=>cY y;have kR:=G (low n O) (f.5 n al);have a4:=G (far n O) kR;have kn:=G (z.5 g O λe=>by have:=(T.lt g e.symm).2;omega) (f.5 g p1.2);have a0:=R_.1.keep a4;rw[V_,X_]at a0;have be:=λL=>ol K_.1.choose_spec L
  refine⟨G (Xc kG) (by rw[<-N_];exact K_.4),λL=>G (bJ kG) (be L),G (Xc kn) p0,⟨a0,⟨_,_,_,_,_,_,R,by show o+1=J x+1;rw[N_],aq⟩,λL=>G (bJ a4) (R_.3 L),⟨bm,SF⟩⟩,Kb.low' (G z.1 f.1) (G z.2 f.2) (G z.3 f.3) SF λb h1 O_=>G (far b O) (G (low b O) (f.5 b O))⟩)
 let⟨i0,bc,bh,bi,bl⟩:=fX Qn;have ab:=λh=>Y<|C h;have bx:J_<=Z v.1:=O;have cg:=λh=>oB (C h) p0 O;have bt:=λh=>ac _<|C h;have bv:=λh bq=>ac _<|Xb (C h) bq;have ex:0<j:=O;have ey:(1:I)<=(j:I):=O;have ez:¬c=1:=O;have ce:K≠g:=O;have cf:g≠K:=O;clear M_ R_ T N_ C X_ V_ a2;unfold Nv;generalize l.getD 0 0=Z_ at*;generalize J d=pl at*
 go_in
 go_wp2_with (go_at_call 221;refine YU (a7 _) λw1 a3=>?_;rw[a3];clear a3 w1)
 refine Y7 (λM=>E M (A g i)=S (H Z_)) λig=>?_;refine Xn 0 ?_;(iterate 3 refine Rm ?_);refine Xn 5 ?_;(iterate 5 refine Rm ?_);refine eS (rs:=[4,11]) vZ sP ?_;refine(bQ R (λL_ hK=>?_) (bQ R (λL_ hK=>?_) dY))
 focus
  go_simp;refine hK _ _ kP λig=>?_;clear hK
 rotate_left
 all_goals
  try (refine eS (rs:=[11]) vZ sP ?_;refine bQ R (λL_ hK=>?_) dY)
  go_simp;refine hK _ _ kP λig=>?_;clear hK
 rotate_left
 rotate_right
 focus
  refine Xs 4 λL_ hK=>?_;go_simp;refine hK _ _ kP λig=>?_;clear hK
 all_goals
  refine Xs 12 λL_ hK=>?_;refine XC _ R (.tmp 37) (.tmp 44) 79 R J_ 83 i0 (Sa #[H 0,Hq]) 2 32 underlying79 bc bh bi bl R vY (X F pl P) pl S_ SE (aa _ (Xb (ab _).o _).drew.drew) (A (Z v.1+1) 0) 1 1 [H Z_,Hm g (i+1) (j-1) (c-1)] SE R (XE (by have u:=tc (D v<|Sc #[H 1,H af] 274) (Sc #[H Z_,Hm g (i+1) (j-1) (c-1)] 83);rw[aO]at u;exact u)) (by intro ch hu;simp at hu;obtain rfl|rfl:=hu<;>rfl) vY SD O SB (Z v.1+1+1) sP ?_;intro r V q az ap P_ bd;let⟨d2,dz,dn,a1,ar⟩:=a5 _ _ _ _ (Xb (ab _).o _).drew.drew az ap (by simpa using P_);have a8:=Y a1;have a6:=Y ar;have br:=dz<|o*6;clear az ap P_ bd a1 ar dz;refine hK _ _ kP λig=>?_;clear hK;refine Xn 13 ?_;refine Xn 14 ?_;refine Xs 15 λL_ hK=>?_;go_simp;refine hK _ _ kP λig=>?_;clear hK;refine Yq ?_;go_wp2;exact uT (v:=St #[]) (by simp[JC,results200,go_sem]) R ⟨R,_,_,_,a8,a6⟩
def dv:List Bool->List N->List N
 |k::ks,p::ps=>if k then p::dv ks ps else dv ks ps
 |_,_=>[]
theorem sE(c:N):∀(a:List Bool)(b:Wa),Yd a (b.map λo=>((A c o):Addr))=(dv a b).map λo=>((A c o):Addr)
 |[],[]=>R
 |[],_::_=>R
 |_::_,[]=>R
 |k::a,o::b=>by cases k<;>simp[Yd,dv,sE c a b]
def ik:List Bool->List I->List I
 |[],_=>[]
 |true::ks,x::xs=>x::ik ks xs
 |true::ks,[]=>0::ik ks []
 |false::ks,xs=>0::ik ks xs
def sX(k:I)(d a b i:Bool)(c:Wc):Yg:=⟨k,(ik [d,a,b,i] c).getD 0 0,(ik [d,a,b,i] c).getD 1 0,(ik [d,a,b,i] c).getD 2 0,(ik [d,a,b,i] c).getD 3 0⟩
def OH(k:I)(a:Wc):Yg:=sX k (dB k) (aB k) (bB k) (iB k) a
def sV(k:I)(a t e:Bool)(b:Wc):Yj:=⟨k,(ik [a,t,e] b).getD 0 0,(ik [a,t,e] b).getD 1 0,(ik [a,t,e] b).getD 2 0⟩
def OK(k:I)(a:Wc):Yj:=sV k (k != 1) (k != 3) (k==2) a
theorem sd{c b:N}(h:c<=b):∀(l:List (N×I))(a w:Ub),Sw c a w->Sw c a (cu w b l)
 |[],_,_,k=>k
 |(o,x)::r,a,w,k=>by rw[cu];exact sd h r a _<|k.setCell h _
theorem Mr{a b i}(c:J l=[r,a,b,i].count So)(h:Jk w n 0 ⟨t,0,0,0,0⟩):Jk (cu w n<|(dv [r,a,b,i] [1,2,3,4]).zip l) n 0 (sX t r a b i l):=by
 let⟨c0,c1,c2,c3,c4⟩:=h;simp only[aV]at c0 c1 c2 c3 c4;obtain _|⟨x,_|⟨y,_|⟨z,_|⟨u,_|⟨v,d⟩⟩⟩⟩⟩:=l<;>cases r<;>cases a<;>cases b<;>cases i<;>first
  |(exfalso;simp at c;done)
  |(exfalso;simp at c;omega)
  |(refine⟨?_,?_,?_,?_,?_⟩<;>simp[cu,dv,sX,ik,c0,c1,c2,c3,c4,go_sem])
theorem Mb{a e}(b:J l=[r,a,e].count So)(h:Va w n 0 ⟨t,0,0,0⟩):Va (cu w n<|(dv [r,a,e] [1,2,3]).zip l) n 0 (sV t r a e l):=by
 let⟨c0,c1,c2,c3⟩:=h;simp only[aV]at c0 c1 c2 c3;obtain _|⟨x,_|⟨y,_|⟨z,_|⟨u,c⟩⟩⟩⟩:=l<;>cases r<;>cases a<;>cases e<;>first
  |(exfalso;simp at b;done)
  |(exfalso;simp at b;omega)
  |(refine⟨?_,?_,?_,?_⟩<;>simp[cu,dv,sV,ik,c0,c1,c2,c3,go_sem])
theorem Af{c d:Type}:∀(l:List c)(r:List d),J l=J r->(l.zip r).map (·.1)=l
 |[],_,_=>sP
 |_::_,[],h=>by simp at h
 |a::l,b::r,h=>by simp[Af l r<|by simpa using h]
theorem Ae{c d:Type}:∀(l:List c)(r:List d),J l=J r->(l.zip r).map (·.2)=r
 |[],[],_=>R
 |[],_::_,h=>by simp at h
 |_::_,[],h=>by simp at h
 |a::l,b::r,h=>by simp[Ae l r<|by simpa using h]
theorem Ka(a)(b:Wa)(h:J a=J b):J (dv a b)=a.count So:=by
 induction a generalizing b with
 |nil=>rfl
 |cons x r c=>cases b with
  |nil=>simp at h
  |cons q s=>cases x<;>simp[dv,c s<|by simpa using h]
theorem zw{e}:∀(b:List Bool)(a:Wa),(∀o∈a,o<e)->∀o∈dv b a,o<e
 |[],[],_,o,h=>by simp[dv]at h
 |[],_::_,_,o,h=>by simp[dv]at h
 |_::_,[],_,o,h=>by simp[dv]at h
 |k::b,p::a,hN,o,h=>by
  have c:=zw b a (λo d=>hN o<|cN _ d) o;cases k with
  |false=>simp only[dv]at h;exact c<|by simpa using h
  |true=>
   simp only[dv,gG,cH]at h;obtain rfl|h:=h;·exact hN _<|cI ..
   exact c h
theorem zK(c L K:N)(r:Vu)(a)(b:Wa)(d:Wc)(v:Uj)(k C p j n e)(w:Ub)(M:Sx w k 257 1 v (J (Yd a<|b.map λo=>((A c o):Addr))) ((Yd a<|b.map λo=>((A c o):Addr)).map Tx))(y:J a=J b)(F:J d=a.count So)(l:e=J d)(z:e<=1000000)(B:w.rowIs c L K r)(s:∀o∈b,o<K)(x:Xf w p j n d)(t:c<k)(u:j<=c):
 ∃f g,v=X f e g/\Sk prog 222 #[X f e g,X n e C] w λi P=>i=Rt (St #[])/\P=cu w c ((dv a b).zip d):=by
 have T:=Ka a b y;obtain⟨f,g,rfl,m⟩:=UO M;rw[sE,jO]at m;have h:J (dv a b)=J d:=O;refine⟨f,g,by rw[sE,bK,bK,h,l],?_⟩;exact Mf (Y<|by simp[h,l]) (Y<|aA) z (Y B) (Y λq hq=>zw a b s q.1 (List.of_mem_zip hq).1) (Y (by
  have i:((dv a b).zip d).map (λq=>Tx<|A c q.1)=(dv a b).map (Tx ∘ λo=>((A c o):Addr)):=by
   conv=>rhs;rw[<-Af _ _ h]
   rw[jO];rfl
  rw[i];exact m)) (Y ((Ae _ _ h)▸x)) (bC t) (aZ u)
theorem Le(o:Sw (Z w.1) w v)(z:Z w.1<=m)(f:m<Z v.1)(r:Jk v m 0 ⟨n,0,0,0,0⟩){t:TypeId}(K:v.rowIs m t 5 h)(u:1<=n)(x:n<=13)(L:Yy v)(s:k=J l)(C:k=NP n)(M:k<=1000000)(P:Xf v g i p l)(y:i<=m):
 Sk prog 218 #[Hn m] v λe j=>∃b c,e=Rt (X b k c)/\Q (Sk prog 222 #[X b k c,X p k B] j λe d=>e=Rt (St #[])/\Q (Sw (Z w.1) w d)/\m<Z d.1/\Q (Jk d m 0<|OH n l)):=by
 refine(zE m n 0 0 0 0 v (Y r) u x (Y L)).mono ?_;rintro e j⟨T,rfl,a,F⟩;have W:=a.4;have q:J l=[dB n,aB n,bB n,iB n].count So:=s▸C;obtain⟨b,c,rfl,V⟩:=zK m t 5 h [dB n,aB n,bB n,iB n] [1,2,3,4] l T (Z v.1) B g i p k j F R q s M (K.of_block<|a.5 m f) sP (P.keep<|a.mono O) f y;refine⟨b,c,R,Y<|V.mono ?_⟩;rintro e d⟨rfl,rfl⟩;exact⟨R,Y<|sd z _ _ _ (o.trans<|a.mono o.4),by rw[se];omega,Y<|Mr q (r.keepS<|a.5 m f)⟩
theorem Lm(o:Sw (Z w.1) w v)(z:Z w.1<=m)(f:m<Z v.1)(r:Va v m 0 ⟨n,0,0,0⟩){t:TypeId}(K:v.rowIs m t 4 h)(u:1<=n)(x:n<=3)(L:Yb v)(s:k=J l)(C:k=NQ n)(M:k<=1000000)(P:Xf v g i p l)(y:i<=m):
 Sk prog 219 #[Hn m] v λe j=>∃b c,e=Rt (X b k c)/\Q (Sk prog 222 #[X b k c,X p k B] j λe d=>e=Rt (St #[])/\Q (Sw (Z w.1) w d)/\m<Z d.1/\Q (Va d m 0<|OK n l)):=by
 refine(zD (Y r) u x (Y L)).mono ?_;rintro e j⟨T,rfl,a,F⟩;have W:=a.4;have q:J l=[(n:I) != 1,(n:I) != 3,(n:I)==2].count So:=s▸C;obtain⟨b,c,rfl,V⟩:=zK m t 4 h [(n:I) != 1,(n:I) != 3,(n:I)==2] [1,2,3] l T (Z v.1) B g i p k j F R q s M (K.of_block<|a.5 m f) sP (P.keep<|a.mono O) f y;refine⟨b,c,R,Y<|V.mono ?_⟩;rintro e d⟨rfl,rfl⟩;exact⟨R,Y<|sd z _ _ _ (o.trans<|a.mono o.4),by rw[se];omega,Y<|Mb q (r.keepS<|a.5 m f)⟩
theorem Ac(W:Ub)(c:Zh)(t:TypeId):(D W<|Sc c t).rowIs (Z W.1) t (Z c) (λi=>c[i]!):=eK W c t _ λi a=>by simp[a]
theorem MA{ps d}(L_:Q (Nq w n a t m ⟨x,S (ps,d)⟩ p k B))(M:Q (Sw (Z w.1) w v))(cf:k<=100000)(cd:J d<=100000)(aq:1<=g)(ar:g<=13)(X_:Q (Yy v))(a1:Q (i=J l))(af:Q (i=NP g))(bp:i<=1000000)(a0:Q (Xf v (Z w.1) (Z v.1) P l)):
 Sk prog 200 #[Hn n,Nv 2 g,X P i j] v λe h=>e=Rt (St #[])/\∃b0 b4 b3,Nq h n a t m ⟨x,S (ps,d++[OH g l])⟩ b0 b4 b3/\Kb m n n v h:=by
 let⟨b6,F,pa,pc,T,V,Y_,a6,M_⟩:=L_.2;dsimp only at a6 M_;let⟨bx,ck⟩:=L_.4;have bm:=M.4;let⟨⟨cg,ch⟩,ci,cj⟩:=M_.3;have O_:=L_.keep M;have z:=Y (M_.keep (w':=v) (λb _ s=>M.5 b s) bm);let⟨F_,S_,⟨bf,ca⟩,a3,ap,N_⟩:=z.insRow;have ad:n<Z v.1:=O;have ac:F<Z v.1:=O;have b1:=λr=>Xb (dC (Z v.1) v) r
 let⟨f,H_⟩:∃f,J x=f:=⟨_,R⟩;have Z_:k=f+1:=O;have bc:Q (∀W,Sw (Z v.1) v W->Sk prog 221 #[Hn n] W λe h=>e=Rt (Ho F<|f*6)/\h=W.drew):=Y (λW c=>pP n a t F f B So W (by have Q_:=(O_.1.keep<|c.5 n ad);rw[Y_,Z_]at Q_;exact Q_) O)
 have be:Q (∀r,Sk prog 218 #[Hn<|Z v.1+1] (D (D v r) (Sc #[H g,H 0,H 0,H 0,H 0] 62)) λe w5=>∃T_ U_,e=Rt (X T_ i U_)/\Q (Sk prog 222 #[X T_ i U_,X P i j] w5 λe h=>e=Rt (St #[])/\Q (Sw (Z v.1) v h)/\Z v.1+1<Z h.1/\Q (Jk h (Z v.1+1) 0 (OH g l)))):=Y (λr=>by have es:Z v.1+1=Z (D v r).1:=(aO _ _).symm;have V_:=Xb (b1 r) (Sc #[H g,H 0,H 0,H 0,H 0] 62);have hr:=Ac (D v r) #[H g,H 0,H 0,H 0,H 0] 62;rw[<-es]at hr;exact Le V_ O sP (Ad g es) hr aq ar (X_.keep V_ X_.1) a1 af bp (a0.keep V_) O)
 have aa:Q (∀W,Sw (Z v.1) v W->Sx W F_ 62 5 (X T (J d) V) (J d) S_):=Y λW c=>Zl N_ λb e=>c.5 b (N_.lt b e).2;have ab:Q (∀W,Sw (Z v.1) v W->E W (A F<|f*6+1)=S (X T (J d) V)):=Y (λW c=>G (c.cell (p:=A F<|f*6+1) ac) (by rw[<-H_];exact z.5));generalize OH g l=r at*;have a9:Q (∀W K L q,Sw (Z v.1) v W->Sx q F_ 62 5 (Hl K (J d+1) L) (J d+1) (S_++r.cells)->W.grownBy q (X T (J d) V).ownBlock->E q (A F<|f*6+1)=S (X T (J d) V)/\(∀o,q.frozen? (A F o)=Sn)/\(∀b o,Z v.1<=b->b<Z W.1->E q (A b o)=E W (A b o))/\Nq (Se q (A F<|f*6+1) (Hl K (J d+1) L)) n a t m ⟨x,S (ps,d++[r])⟩ (S ⟨F,0,U⟩) (f+1) B/\Kb m n n v (Se q (A F<|f*6+1) (Hl K (J d+1) L))):=Y (λW K L q c ho u=>by
  have bh:=c.4;have cc:=u.4;have aj:=aa W c;have bl:=z.keep (w':=W) (λb _ s=>c.5 b s) bh;have ao:=bl.ins (H2:=F_) ⟨bf,O⟩ (a3.keepS λb _ s=>c.5 b O) (ap.keep λb _ s=>c.5 b s) aj r ho u;rw[H_]at ao;have low:∀b,b<F_->q.1[b]?=W.1[b]?:=λb h1=>u.5 b O (λe=>by have:=(aj.lt b e.symm).1;omega);have kG:=G (low F O) (c.5 F ac);have far:∀b,b≠F->(Se q (A F<|f*6+1) (Hl K (J d+1) L)).1[b]?=q.1[b]?:=λb M=>cY M;have kR:=G (low n O) (c.5 n ad);have a8:=G (far n O) kR;have a4:=O_.1.keep a8;rw[Y_,Z_]at a4;have bq:=λo=>ol z.1.choose_spec o
  refine⟨G (Xc kG) (by rw[<-H_];exact z.5),λo=>G (bJ kG) (bq o),λb o h1 s=>Xc (u.5 b s λe=>by have:=(N_.lt b e.symm).2;omega),⟨a4,⟨_,_,_,_,_,_,R,by show f+1=J x+1;rw[H_],ao⟩,λo=>G (bJ a8) (O_.3 o),⟨bx,SF⟩⟩,Kb.low' (G u.1 c.1) (G u.2 c.2) (G u.3 c.3) SF λb h1 s=>G (far b O) (G (low b O) (c.5 b O))⟩)
 let⟨i0,bn,br,bt,bv⟩:=fX RB;have cl:F≠Z v.1+1:=O;have cm:Z v.1+1≠F:=O;clear M_ O_ N_ H_ Z_ Y_ a6 a3 ap b1 aq ar;unfold Nv;let⟨xo,xd,xa,xb,xi⟩:=r;generalize J d=il at*
 go_in
 go_wp2_with (first
  |(go_at_call 218;refine(be _).mono ?_;rintro e w5⟨T_,U_,rfl,HF⟩)
  |(go_at_call 222;refine YU HF λR_⟨y,cb,ba⟩=>?_;have ce:=y.4;let⟨q0,q1,q2,q3,q4⟩:=ba.o;simp only[aV]at q0 q1 q2 q3 q4;have g6:=ab _ y;have b8:=λb5=>ab _<|Xb y b5)
  |(go_at_call 221;refine YU (bc _ y) λw1 a7=>?_;rw[a7];clear a7 w1))
 refine Y7 (λh=>E h (A (Z v.1+1) 0)=S (H xo)/\E h (A (Z v.1+1) 1)=S (H xd)/\E h (A (Z v.1+1) 2)=S (H xa)/\E h (A (Z v.1+1) 3)=S (H xb)/\E h (A (Z v.1+1) 4)=S (H xi)) λig=>?_;refine Xn 0 ?_;(iterate 3 refine Rm ?_);refine Xn 5 ?_;refine eS (rs:=[4,6]) vZ sP ?_;refine(bQ R (λK_ hK=>?_) (bQ R (λK_ hK=>?_) dY))
 focus
  go_simp;refine hK _ _ kP λig=>?_;clear hK
 rotate_left
 all_goals
  try (refine eS (rs:=[6]) vZ sP ?_;refine bQ R (λK_ hK=>?_) dY)
  go_simp;refine hK _ _ kP λig=>?_;clear hK
 rotate_left
 rotate_right
 focus
  refine Xs 4 λK_ hK=>?_;go_simp;refine hK _ _ kP λig=>?_;clear hK
 all_goals
  refine Xs 7 λK_ hK=>?_;refine XC _ R (.tmp 62) (.tmp 64) 56 R F_ 62 i0 (Sa #[H 0,H 0,H 0,H 0,H 0]) 5 40 underlying56 bn br bt bv R vY (X T il V) il S_ SE (aa _ (Xb y _).drew.drew) (A (Z R_.1) 0) 1 1 [H xo,H xd,H xa,H xb,H xi] SE R (XE (by have Q_:=tc R_<|Sc #[H xo,H xd,H xa,H xb,H xi] 62;exact Q_)) (by intro cn hu;simp at hu;obtain rfl|rfl|rfl|rfl|rfl:=hu<;>rfl) vY SD O SB (Z R_.1+1) sP ?_;intro K L q a2 al bi bo;let⟨d2,dz,dn,a5,az⟩:=a9 _ _ _ _ (Xb y _).drew.drew a2 al;have bd:=Y a5;have bb:=Y az;have b7:=dz<|f*6+1;let⟨s0,s1,s2,s3,s4⟩:=ig;have C:=λo=>dn (Z v.1+1) o O (by show _<Z (D R_ _).1;rw[aO];omega);have r0:=G (C 0) s0;have r1:=G (C 1) s1;have r2:=G (C 2) s2;have r3:=G (C 3) s3;have r4:=G (C 4) s4;clear a2 al bi bo a5 az dz dn C s0 s1 s2 s3 s4;refine hK _ _ (by first|exact⟨r0,r1,r2,r3,r4⟩|((try dsimp only);go_keep)) λig=>?_;clear hK;refine Xn 8 ?_;refine Xn 9 ?_;refine Xs 10 λK_ hK=>?_;go_simp;refine hK _ _ kP λig=>?_;clear hK;refine Yq ?_;go_wp2;exact uT (v:=St #[]) (by simp[JC,results200,go_sem]) R ⟨R,_,_,_,bd,bb⟩
theorem MM{T V}(C:Q (Nq w n a t m ⟨x,S (T,V)⟩ p k B))(h:Q (Sw (Z w.1) w v))(bp:k<=100000)(ac:1<=g)(ad:g<=3)(M_:Q (Yb v))(al:Q (i=J l))(ab:Q (i=NQ g))(bc:i<=1000000)(aj:Q (Xf v (Z w.1) (Z v.1) P l)):
 Sk prog 200 #[Hn n,Nv 3 g,X P i j] v λe f=>e=Rt (St #[])/\∃bf bi bh,Nq f n a t m ⟨x++[⟨T,V,OK g l⟩],U⟩ bf bi bh/\Kb m n n v f:=by
 obtain⟨bl,F,pa,pc,ia,ic,N_,aq,K⟩:=C.2;dsimp only at aq K;obtain⟨be,bx⟩:=C.4;have ba:=h.4;obtain⟨⟨bq,br⟩,bt,bv⟩:=K.3;have y:=C.keep h;have A_:=Y (K.keep (w':=v) (λc _ s=>h.5 c s) ba);have Z_:n<Z v.1:=O;have a7:F<Z v.1:=O;have V_:=λr=>Xb (dC (Z v.1) v) r
 obtain⟨b,K_⟩:∃b,J x=b:=⟨_,R⟩;have O_:k=b+1:=O;have a4:Q (∀W,Sw (Z v.1) v W->Sk prog 221 #[Hn n] W λe f=>e=Rt (Ho F<|b*6)/\f=W.drew):=Y (λW q=>pP n a t F b B So W (by have az:=(y.1.keep<|q.5 n Z_);rw[N_,O_]at az;exact az) O)
 have a6:Q (∀r,Sk prog 219 #[Hn<|Z v.1+1] (D (D v r) (Sc #[H g,H 0,H 0,H 0] 58)) λe w5=>∃H_ I_,e=Rt (X H_ i I_)/\Q (Sk prog 222 #[X H_ i I_,X P i j] w5 λe f=>e=Rt (St #[])/\Q (Sw (Z v.1) v f)/\Z v.1+1<Z f.1/\Q (Va f (Z v.1+1) 0 (OK g l)))):=Y (λr=>by have X_:Z v.1+1=Z (D v r).1:=(aO _ _).symm;have J_:=Xb (V_ r) (Sc #[H g,H 0,H 0,H 0] 58);have hr:=Ac (D v r) #[H g,H 0,H 0,H 0] 58;rw[<-X_]at hr;exact Lm J_ O sP (z9 g X_) hr ac ad (M_.keep J_ M_.1) al ab bc (aj.keep J_) O)
 have T_:Q ((OK g l).1≠0):=Y (by show(g:I)≠0;omega);generalize OK g l=d at*;have a1:Q (∀W,Sw (Z v.1) v W->(E W (A F<|b*6+2)=S (H 0)/\E W (A F<|b*6+2+1)=S (H 0)/\E W (A F<|b*6+2+2)=S (H 0)/\E W (A F<|b*6+2+3)=S (H 0))/\(∀o,W.frozen? (A F o)=Sn)/\E W (A n 3)=S (Sb So)/\(∀o,W.frozen? (A n o)=Sn)/\Nq (Se (Se (Se (Se (Se W (A F<|b*6+2) (H d.1)) (A F<|b*6+2+1) (H d.a)) (A F<|b*6+2+2) (H d.3)) (A F<|b*6+2+3) (H d.4)) (A n 3) (Sb Sn)) n a t m ⟨x++[⟨T,V,d⟩],U⟩ (S ⟨F,0,U⟩) (b+1) B/\Kb m n n v (Se (Se (Se (Se (Se W (A F<|b*6+2) (H d.1)) (A F<|b*6+2+1) (H d.a)) (A F<|b*6+2+2) (H d.3)) (A F<|b*6+2+3) (H d.4)) (A n 3) (Sb Sn))):=Y (λW q=>by
  have a9:=q.4;have kG:=q.5 F a7;have R_:=q.5 n Z_;have aa:=(A_.keep (w':=W) (λc _ s=>q.5 c s) a9).close d T_;obtain⟨t0,t1,t2,t3⟩:=A_.6;rw[K_]at aa t0 t1 t2 t3;have a8:(λz:Ub=>(∀c,c≠F->z.1[c]?=W.1[c]?)/\Z z.1=Z W.1/\(z.4=W.4/\z.2=W.2/\z.5=W.5)) (Se (Se (Se (Se W (A F<|b*6+2) (H d.1)) (A F<|b*6+2+1) (H d.a)) (A F<|b*6+2+2) (H d.3)) (A F<|b*6+2+3) (H d.4)):=⟨(λc h=>by rw[cY h,cY h,cY h,cY h]),sP,⟨R,R,R⟩⟩;generalize (Se (Se (Se (Se W _ _) _ _) _ _) _ _)=L at*;obtain⟨Y_,bo,L_⟩:=a8;have kU:=G (Y_ n O) R_;have far:∀c,c≠n->(Se L (A n 3) (Sb Sn)).1[c]?=L.1[c]?:=λc h=>cY h;have u:=y.1;have ao:=u.3;rw[N_,O_]at ao;have XL:∀(M:N)(a0:Uj),3≠M->E (Se L (A n 3) a0) (A n M)=E L (A n M):=λM a0 bb=>cJ (by intro e;injection e with _ e;exact bb e);have bd:=λo=>ol A_.1.choose_spec o;refine⟨⟨G (Xc kG) t0,G (Xc kG) t1,G (Xc kG) t2,G (Xc kG) t3⟩,λo=>G (bJ kG) (bd o),G (Xc R_) u.4,λo=>G (bJ R_) (y.3 o),⟨⟨?_,?_,?_,?_⟩,⟨by simp[K_],aa.keep (λc h1 s=>far c O) sP⟩,λo=>?_,⟨be,SF⟩⟩,Kb.low' (G L_.1 q.1) (G L_.2.1 q.2) (G L_.2.2 q.3) SF λc h1 s=>G (far c s) (G (Y_ c O) (q.5 c O))⟩;·rw[XL _ _ vY];exact G (Xc kU) u.1
  .rw[XL _ _ vY];exact G (Xc kU) u.2
  .rw[XL _ _ vY];exact G (Xc kU) ao
  .exact fQ _ _ _<|G (Xc kU) u.4
  rw[eX];exact G (bJ kU) (y.3 o))
 have b3:F≠Z v.1+1:=O;have b5:Z v.1+1≠F:=O;have b0:F≠n:=O;have b4:n≠F:=O;clear K y K_ O_ N_ aq V_ ac ad;unfold Nv;obtain⟨xo,xa,xb,xi⟩:=d
 go_in
 go_wp2_with (first
  |(go_at_call 219;refine(a6 _).mono ?_;rintro e w5⟨H_,I_,rfl,HF⟩)
  |(go_at_call 222;refine YU HF λw6⟨F_,bm,a2⟩=>?_;have bn:=F_.4;obtain⟨q0,q1,q2,q3⟩:=a2.o;simp only[aV]at q0 q1 q2 q3;obtain⟨⟨x0,x1,x2,x3⟩,xz,y3,yz,ap,af⟩:=a1 _ F_;have a5:=Y ap;have a3:=Y af;clear ap af))
 go_region_held3 (λf=>E f (A (Z v.1+1) 0)=S (H xo)/\E f (A (Z v.1+1) 1)=S (H xa)/\E f (A (Z v.1+1) 2)=S (H xb)/\E f (A (Z v.1+1) 3)=S (H xi)) (go_keep) ((go_at_call 221;refine YU (a4 _ F_.drew) λw1 ar=>?_;rw[ar];clear ar w1))
 all_goals
  go_wp2;exact uT (v:=St #[]) (by simp[JC,results200,go_sem]) R ⟨R,_,_,_,a5.keep (Rf).drew.drew,a3.drew.drew⟩
theorem Aa{f}(h:Np Sn f=So):NY Sn f=Gb f:=by have h:Ax f 4=So:=h;show NF f 4=Gb f;unfold NF Gb;rw[aU h,aU h]
theorem MQ{f}(h:Np So f=So):NY So f=i9 f:=by have h:NM f=So:=h;show fp f=i9 f;unfold fp;rw[aU h]
theorem pS{q:Ys}(hq:∀i,q i=Sn):∀(r:Vw)(i:N),bg q i r=So->GI q i r=r.map Gb
 |[],_,_=>R
 |f::r,i,h=>by rw[bg,hq i,bY]at h;rw[GI,hq i,Aa h.1,pS hq r (i+1) h.2];rfl
def dx(b:N)(c:N)(a:List I)(s:NX):Option NX :=
 if b=0 then (match s.2 with|some _=>U|none=>S ⟨s.1,S ([],[])⟩)
 else match s.2 with
  |none=>U
  |some (ps,is)=>
   if b=1 then (if is=[]then S ⟨s.1,S (ps++[⟨a.getD 0 0,a.tail⟩],is)⟩else U)
   else if b=3 then S ⟨s.1++[⟨ps,is,OK c a⟩],U⟩
   else S ⟨s.1,S (ps,is++[OH c a])⟩
theorem L8{F}{r:Vw}(d:D2 F=n)(j:1<=n)(k:n<=10)(c:J r=NP n)(a:bg (FZ 2 n (J r)) 0 r=So):T1 (F::r)=OH n (GI (FZ 2 n (J r)) 0 r):=by
 have e:T1 (F::r)=ND (F::r) n (J (fv n)):=by unfold T1;rw[List.headD_cons,d]
 rw[e];have f:n=1\/n=2\/n=3\/n=4\/n=5\/n=6\/n=7\/n=8\/n=9\/n=10:=O;by_cases b:n=1
 .subst b
  obtain⟨x,y,rfl⟩:∃x y,r=[x,y]:=by
   rw[show NP 1=2 by decide]at c
   match r,c with
   |[x,y],_=>exact⟨x,y,R⟩
  simp only[bg,FZ,bA,bO,vR,bY]at a;simp only[GI,FZ,bA,bO];let⟨g,h⟩:=a;have v1:=Aa (f:=x) g;have v2:=MQ (f:=y) h;show ND (F::[x,y]) 1 2=OH 1 [NY Sn x,NY So y];rw[v1,v2];rfl
 have hq:∀i,FZ 2 n (J r) i=Sn:=λi=>by simp[FZ,b]
 rw[pS hq r 0 a];obtain rfl|rfl|rfl|rfl|rfl|rfl|rfl|rfl|rfl|rfl:=f;·exact Sz R b
 all_goals
  obtain _|⟨x,_|⟨y,_|⟨z,_|⟨u,t⟩⟩⟩⟩:=r
  all_goals first
   |(exfalso;revert c;simp[NP,dB,aB,bB,iB];done)
   |rfl
theorem Ma{F}{r:Vw}(hF:(F=fg/\n=1)\/(F=Vn/\n=2)\/(F=ew/\n=3))(b:J r=NQ n)(a:bg (FZ 3 n (J r)) 0 r=So):Y4 (F::r)=OK n (GI (FZ 3 n (J r)) 0 r):=by
 have hq:∀i,FZ 3 n (J r) i=Sn:=λi=>by simp[FZ]
 rw[pS hq r 0 a];obtain⟨rfl,rfl⟩|⟨rfl,rfl⟩|⟨rfl,rfl⟩:=hF
 all_goals
  obtain _|⟨x,_|⟨y,_|⟨z,_|⟨u,t⟩⟩⟩⟩:=r
  all_goals first
   |(exfalso;revert b;simp[NQ];done)
   |rfl
theorem Mg(F:Wn){r:Vw}(a:2<=J r)(b:bg (FZ 1 n (J r)) 0 r=So):jt (F::r)=⟨(GI (FZ 1 n (J r)) 0 r).getD 0 0,(GI (FZ 1 n (J r)) 0 r).tail⟩:=by
 have hq:∀i,FZ 1 n (J r) i=Sn:=λi=>by simp[FZ]
 rw[pS hq r 0 b]
 match r,a with
 |x::y::t,_=>rfl
theorem LO(s F)(r:Vw)(c b)(a:fy F=S (c,b))(j:dr c b (J r)=So)(i:bg (FZ c b (J r)) 0 r=So):je s (F::r)=dx c b (GI (FZ c b (J r)) 0 r) s:=by
 unfold je;rw[List.headD_cons];unfold fy at a;let⟨n,d⟩:=s;by_cases f:D2 F≠0
 .rw[aU f]at a;cases a;let⟨⟨L,M⟩,x,y,z,K,B⟩:=oL f;have v:D2 F=((D2 F).toNat:I):=O;have h:J r=NP (D2 F).toNat:=by simpa [dr]using j
  have g:=L8 v O O h i;unfold dh dx;rw[aM x,aM vY];cases d with
  |none=>rfl
  |some e=>
   let⟨o,m⟩:=e;dsimp only;have C:jx F=Sn:=by unfold jx;have p:F≠[106,117,109,112]:=y;have q:F≠[114,101,116]:=z;have t:F≠[98,114,97,110,99,104]:=K;simp[p,q,t]
   rw[aM B,aM (by rw[C];decide),aM vY,aM vY,g]
 rw[aM f]at a;by_cases e1:F=eh
 .rw[aU e1]at a;cases a;unfold dh dx;rw[aU e1,aU R]<;>cases d<;>rfl
 rw[aM e1]at a;by_cases e2:F=fm
 .rw[aU e2]at a;cases a;unfold dh dx;rw[aM e1,aM vY];cases d with
  |none=>rfl
  |some e=>
   let⟨o,m⟩:=e;dsimp only;rw[aU e2,aU R,Mg F (by simpa [dr]using j) i]
 rw[aM e2]at a
 have fin:∀k:N,(F=fg/\k=1)\/(F=Vn/\k=2)\/(F=ew/\k=3)->S (3,k)=S (c,b)->dh ⟨n,d⟩ F (F::r)=dx c b (GI (FZ c b (J r)) 0 r) ⟨n,d⟩:=λk l u=>by
  cases u;have h:J r=NQ b:=by simpa [dr]using j
  have g:=Ma l h i;have w:jx F=So:=by obtain⟨rfl,_⟩|⟨rfl,_⟩|⟨rfl,_⟩:=l<;>rfl
  unfold dh dx;rw[aM e1,aM vY];cases d with
  |none=>rfl
  |some e=>
   let⟨o,m⟩:=e;dsimp only;rw[aM e2,aU w,aM vY,aU R,g]
 by_cases e3:F=fg;·rw[aU e3]at a;exact fin 1 (bC ⟨e3,R⟩) a
 rw[aM e3]at a;by_cases e4:F=Vn;·rw[aU e4]at a;exact fin 2 (aZ<|bC ⟨e4,R⟩) a
 rw[aM e4]at a;by_cases e5:F=ew;·rw[aU e5]at a;exact fin 3 (aZ<|aZ ⟨e5,R⟩) a
 rw[aM e5]at a;cases a
theorem Lv(c:N)(e:Wc)(s:NX)(g:n<=3):(dx n c e s).isSome=sR n s.2.isSome (match s.2 with|none=>0|some (_,a)=>J a):=by
 let⟨h,d⟩:=s;have b:n=0\/n=1\/n=2\/n=3:=O;cases d with
 |none=>obtain rfl|rfl|rfl|rfl:=b<;>rfl
 |some f=>
  let⟨i,a⟩:=f;obtain rfl|rfl|rfl|rfl:=b;·rfl
  .cases a with
   |nil=>rfl
   |cons x r=>rfl
  .rfl
  rfl
theorem MB(h:Sx w n m 1 a k y)(f:0<k):∃g c,a=X (S ⟨g,0,U⟩) k c/\k<=c:=by
 obtain⟨_,h|⟨g,b,e,rfl,_,_,d,_⟩⟩:=h;·omega
 exact⟨g,b,R,d⟩
theorem MC{C f}(h:Nq w n a t m C p k B)(s:Sw (Z w.1) w v)(K:TT C<=100000)(T:Yy v)(V:Yb v)(X_:g<=3)(W:g=2->1<=i/\i<=10)(O_:g=3->1<=i/\i<=3)(L:Sx v (Z w.1) 2 1 A_ j (l.map<|Si S6))(x:j=J l)(F:j<=1000000)(M:dr g i j=So)(b:dx g i l C=S f):
 Sk prog 200 #[Hn n,Nv g i,A_] v λe c=>e=Rt (St #[])/\∃S_ U_ T_,Nq c n a t m f S_ U_ T_/\Kb m n n v c:=by
 have y:=aJ h.2.len K;let⟨z,r⟩:=C;have L_:g=0\/g=1\/g=2\/g=3:=O;obtain⟨J_,c_,rfl,P⟩:=Xk L;rw[<-x]at L |-;obtain rfl|rfl|rfl|rfl:=L_
 .cases r with
  |some d=>exact Sz b<|by simp[dx]
  |none=>
   have e:f=⟨z,S ([],[])⟩:=by simpa [dx]using b.symm
   subst e;exact(LV i J_ j c_ (Y<|h.keep s) y).mono λe c h=>h
 .cases r with
  |none=>exact Sz b<|by simp[dx]
  |some d=>
   let⟨q,o⟩:=d;cases o with
   |cons Z_ Y_=>exact Sz b<|by simp[dx]
   |nil=>
    have e:f=⟨z,S (q++[⟨l.getD 0 0,l.tail⟩],[])⟩:=by simpa [dx]using b.symm
    subst e;have P_:2<=j:=by simpa [dr]using M
    let⟨W_,V_,K_,M_⟩:=MB L O;obtain⟨rfl,-,rfl⟩:=Z5 K_;exact(MH i (Y h) (Y s) y (by simp only[TT]at K;omega) (Y x) P_ F M_ (Y P)).mono λe c h=>h
 .cases r with
  |none=>exact Sz b<|by simp[dx]
  |some d=>
   let⟨q,o⟩:=d;have e:f=⟨z,S (q,o++[OH i l])⟩:=by simpa [dx]using b.symm
   subst e;have u:=W R;exact MA (Y h) (Y s) y (by simp only[TT]at K;omega) u.1 O (Y T) (Y x) (Y<|by simpa [dr]using M) F (Y P)
 cases r with
 |none=>exact Sz b<|by simp[dx]
 |some d=>
  let⟨q,o⟩:=d;have e:f=⟨z++[⟨q,o,OK i l⟩],U⟩:=by simpa [dx]using b.symm
  subst e;have u:=O_ R;exact MM (Y h) (Y s) y u.1 u.2 (Y V) (Y x) (Y<|by simpa [dr]using M) F (Y P)
def sx(w f:Ub)(l:N)(j:Uj)(V:I)(a:N)(s:NX)(b:Wn)(e:Ending):Prop :=
 Kb a l l w f/\((∃c,bk s b=.bad c/\c≠0/\e=Rt (Si S6 c))\/(∃d,bk s b=.ok d/\e=Rt (Si S6 0)/\∃g i h,Nq f l j V a d g i h))
theorem r9{s b c}(k:Sw (Z w.1) w v)(d:m<=Z w.1)(h:bk s b=.bad c)(e:c≠0):sx w v n a t m s b (Rt (H c)):=⟨Kb.of_below<|k.mono d,bC ⟨c,h,e,R⟩⟩
theorem La(F g V k s d)(f e b a:N)(w)(h:Nq w F g V k s d f e)(c:b<=3)(n:TT s<=100000)(j:Wc):
 Sk prog 199 #[Hn F,Nv b a] w λm u=>m=Rt (Sb (dx b a j s).isSome)/\Sw (Z w.1) w u:=by
 have v:=aJ h.2.len n;let⟨x,y⟩:=h.4;rw[Lv a j s c];let⟨B,l⟩:=s;cases l with
 |none=>exact yM F g V d 0 f e Sn U 0 0 b a w (Y h.1) O O c (Y λt=>Sz t vY)
 |some r=>
  let⟨C,q⟩:=r;let⟨L,K,z,M,o,p,e1,e2,i⟩:=h.2;let⟨⟨_,lG⟩,_,lH⟩:=i.3;dsimp only at e2;exact yM F g V d K f e So o (J q) p b a w (Y h.1) O O c (Y λ_=>⟨e1,O,O,by rw[e2,vr];exact i.5⟩)
theorem MG:n=0\/(if n=0 then S ((A m 0):Addr)else S (A m 1))=S (A m 1):=by
 by_cases h:n=0;·exact bC h
 exact aZ<|aM h
theorem MO(a):0<J (C3 a 32):=by unfold C3;rw[l8];omega
theorem Mu{F:Wn}(e:J F<=1000000):∃(g d:N)(c:Bool),(c=Sn/\fy F=U\/c=So/\fy F=S (g,d))/\∀(w:Ub)(b:N),w.ownsMap prog 9 fh b 15 (OQ 3)->(Instr.lookup 186 (.map (S b)) (Sg (K8 F)) So).run prog w=.ok (St #[Sa #[H g,H d],Sb c]) w:=by
 cases h:fy F with
 |none=>exact⟨0,0,Sn,bC ⟨R,R⟩,λw b a=>G (yX a e) (by rw[h];rfl)⟩
 |some f=>exact⟨f.1,f.2,So,aZ ⟨R,R⟩,λw b a=>G (yX a e) (by rw[h];rfl)⟩
theorem Mm{q a e}(h:sy n w q a e):∃v b,e=Rt (St #[v,Sb b])/\(bg q 0 a=Sn/\b=Sn\/bg q 0 a=So/\b=So/\Sx w n 2 1 v (J a) ((GI q 0 a).map (Si S6))):=by
 cases hok:bg q 0 a with
 |false=>exact⟨_,_,h.2 hok,bC ⟨R,R⟩⟩
 |true=>let⟨v,e1,e2⟩:=h.1 hok;exact⟨v,_,e1,aZ ⟨R,R,e2⟩⟩
theorem I7{u ab}{b:Wn}(y:Q (Nq w n (.map (S m)) t k u p B g))(L_:Q (m<Z w.1/\w.ownsMap prog 9 fh m 15 (OQ 3)))(O_:Q (Yy w))(P_:Q (Yb w))(hm:Q (ft w))(a3:Q (TT u<=100000))(Q_:Q (ab=J b))(ci:ab<=c)(X_:c<=9223372036854775807)(hn:ab<=100000)(ha:Q (∀M (y:M<J b),E w (A i<|j+M)=S (Si .u8 (b[M].toNat:I))))(hb:i<Z w.1):
 Sk prog 163 #[Hn n,Hm i j ab c] w λe d=>sx w d n (.map (S m)) t k u b e:=by
 let⟨cz,aa⟩:=y.4;have ao:=Y<|yA Q_ ci X_ O ha hm hb;have R_:Q (∀K∈C3 b 32,J K<=1000000):=Y (λK hf=>by have:=kh 32 b [] K hf;simp only[bO]at this;have:=Q_.o;omega);have T_:Q (J (C3 b 32)<=100001):=Y (by unfold C3;rw[l8];have:=List.count_le_length (a:=(32:UInt8)) (l:=b);have:=Q_.o;omega);cases hall:(C3 b 32).all Y3 with
 |false=>
  have HP:Q (bk u b=.bad 4):=Y (by unfold bk Bf;rw[hall];rfl)
  go_in
  go_wp2_with (go_at_call 161;refine ao.mono ?_;rintro e a⟨P,_,br⟩;rw[br hall];have o:=Y P;clear br P)
  go_ret;exact r9 o aa HP vY
 |true=>
  have aj:Q (Bf b=C3 b 32):=Y (by unfold Bf;rw[aU hall]);let⟨F,r,bi⟩:∃F r,C3 b 32=F::r:=by
   have:=MO b
   match hcs:C3 b 32,this with
   |F::r,_=>exact⟨F,r,R⟩
  rw[bi]at ao R_ T_ aj hall;have b4:=Y<|R_.o F (cI ..);let⟨q,a1⟩:∃q,J r=q:=⟨_,R⟩;have J_:=Y a1;have cr:q<=100000:=by have:=T_.o;rw[bA]at this;omega
  have S_:=Y<|LU F r;have ap:=Y λl f=>LO u F r l f;have bf:=Y<|zF F q;rw[a1]at S_ ap;have b7:Q (C0 (F::r)≠0->bk u b=.bad (C0 (F::r))):=Y (λa5=>by unfold bk;rw[aj.o,aM sP,aU a5]);have b8:Q (∀j,C0 (F::r)=0->je u (F::r)=j->bk u b=(match j with|none=>.bad 8|some s'=>.ok s')):=Y λj a5 e=>by unfold bk;rw[aj.o,aM sP,aM λy=>y a5,e]<;>cases j<;>rfl
  have cd:n<Z w.1:=O;clear a1 bi;let⟨l,f,kn,bo,bp⟩:=Mu b4;have b5:=Y bo;have b6:Q (∀a h T,Sw (Z w.1) w a->E a (A h 0)=S T->mf a i T F->h<Z a.1->∃v c1,T=Hm i v (J F) c1/\∀W,Sw (Z a.1) a W->E W (A n 0)=S (.map (S m))/\E W (A h 0)=S (Hm i v (J F) c1)/\(convert 22 9<|Hm i v (J F) c1).run prog W=.ok (Sg (K8 F)) W/\(Instr.lookup 186 (.map (S m)) (Sg (K8 F)) So).run prog W=.ok (St #[Sa #[H l,H f],Sb kn]) W):=Y (λa h T k3 cg Z_ Y_=>by
   have N_:=k3.4;obtain⟨v,c1,rfl,cp,cf⟩:=Z_;refine⟨v,c1,R,λW U_=>⟨?_,G (U_.cell (p:=A h 0) Y_) cg,pN W i v c1 F (λb0 hj=>G (U_.cell (p:=A i<|v+b0) (by show i<_;omega)) (cf b0 hj)),bp W m ?_⟩⟩;·exact G (U_.cell (p:=A n 0) (by show n<_;omega)) (G (k3.cell (p:=A n 0) cd) y.1.1)
   let⟨es,ck,ce,rest⟩:=L_.2
   exact⟨es,ck,G (G (U_.5 m<|oN L_.1) (k3.5 m L_.1)) ce,rest⟩)
  clear bo bp;have ad:Q (∀c d,c≠0->C0 (F::r)=c->Sw (Z w.1) w d->sx w d n (.map (S m)) t k u b (Rt (H c))):=Y (λc d X_ e x=>r9 x aa (by rw[b7.o (by rw[e];exact X_),e]) X_);have cs:(1:I)<=q+1:=O;have ct:(0:I)<q+1:=O
  go_in
  go_wp2_with (go_at_call 161;refine ao.mono ?_;rintro e a⟨P,bx,_⟩;obtain⟨h,x,Y_,hk,rfl,M_⟩:=bx hall;have ch:x=q+1:=(by rw[hk,bA,J_.o]);subst ch;let⟨v0,bv,bt⟩:=M_.2 0 sP;obtain⟨v,c1,rfl,bq⟩:=b6 a h v0 P bv bt M_.1;have C:=Y bq;have o:=Y P;have bb:=Y M_;have N_:=P.4;have cn:=M_.1;clear bx P M_ bv bt bq hk)
  refine wp_region_held_drew (S:=(λd=>E d (A n 0)=S (.map (S m))/\E d (A h 0)=S (Hm i v (J F) c1)/\(convert 22 9<|Hm i v (J F) c1).run prog d=.ok (Sg (K8 F)) d/\(Instr.lookup 186 (.map (S m)) (Sg (K8 F)) So).run prog d=.ok (St #[Sa #[H l,H f],Sb kn]) d)) vZ (C _ (Rf).drew) λig=>?_;refine Xn 0 ?_;(iterate 11 refine Rm ?_);refine Xs 12 λbh hK=>?_;go_simp;refine hK _ _ (by first|exact C _ (Xb Rf _).drew|exact C _ ((Xb (Below.refl _ _) _).setCell aA _).drew|exact C _<|Xb (Below.refl _ _) _) λig=>?_;clear hK;refine Xs 13 λbh hK=>?_;go_simp;refine hK _ _ (by first|exact C _ (Xb Rf _).drew|exact C _ ((Xb (Below.refl _ _) _).setCell aA _).drew|exact C _<|Xb (Below.refl _ _) _) λig=>?_;clear hK;refine Xn 14 ?_;refine Yq ?_;clear ig;rcases b5.o with⟨rfl,hwo⟩|⟨rfl,hwo⟩
  .go_wp2;go_ret;exact ad 5 _ vY (by have:=S_.o;rw[hwo]at this;exact this) (o.trans<|(Xb Rf _).drew.mono N_)
  have a4:=bf.o;have s:=S_.o;rw[hwo]at a4 s;dsimp only at a4 s;let⟨_,_,_,a2,bm,bn⟩:=a4;have al:=Y s;have bd:=Y<|ap.o l f hwo;have a7:=Y bm;have a8:=Y bn;clear s bm bn hwo;go_wp2_with fail
  go_at_call 197
  refine YU (LP a2 O a7 a8 (Y<|O_.keep (o.trans<|(Xb Rf _).drew.mono N_) O_.1) (Y<|P_.keep (o.trans<|(Xb Rf _).drew.mono N_) P_.1)) λL ar=>?_;cases htk:dr l f q with
  |false=>
   go_wp2;go_ret;exact ad 6 _ vY (by have:=al.o;rw[htk]at this;exact this) (Xg (o.trans<|(Xb Rf _).drew.mono N_) ar)
  |true=>
   have aq:=Y htk;have HQ:Q (∀W,Sw (Z L.1) L W->Sw (Z a.1) a W/\E W (A (Z a.1) 0)=S (H l)/\E W (A (Z a.1) 1)=S (H f)):=Y (λW x=>by
    have x:=Xg ar x;have hs:Z a.1<Z (D a<|Sc #[H l,H f] 274).drew.1:=by show _<Z (D a _).1;rw[aO];omega
    exact⟨Xg (Xb Rf _).drew x,G (x.cell (p:=A (Z a.1) 0) hs) sP,G (x.cell (p:=A (Z a.1) 1) hs) sP⟩)
   let⟨az,q0,q1⟩:=HQ L<|Rf;have a6:=Y az;have cw:=az.4;clear ar az htk;go_wp2;refine Y7 (λd=>E d (A (Z a.1) 0)=S (H l)/\E d (A (Z a.1) 1)=S (H f)) λig=>?_;refine Xn 0 ?_;refine Xn 1 ?_;refine Xn 2 ?_;refine Xs 3 λbh hK=>?_;go_simp;refine(IK i (Y J_.symm) O (by show i<Z L.1;have:=o.4;omega) aA (Y λM hi=>?_) (Y λK hf=>R_ K<|cN _ hf)).mono ?_
   .have Y_:=bb.1;have cv:=J_.o;let⟨T,hv,Z_⟩:=bb.2 (M+1) (by rw[bA];omega);rw[fO]at Z_;exact⟨h,1,T,aM O,by show h<Z L.1;omega,by rw[yy 1 M];exact G (a6.cell (p:=A h<|M+1) Y_) hv,Z_.keep<|a6.5 i (oN o.4)⟩
   generalize (if q=0 then S ((A h 0):Addr)else S (A h 1))=fa;rintro e w6⟨V,bl⟩;have V:=Xg (dC (Z L.1) L).drew V;obtain⟨v6,ok,rfl,z⟩:=Mm bl;have cb:=Y z;have b3:=Y V;let⟨a0,p0,p1⟩:=HQ w6 V;have af:=Y a0;have cx:=a0.4;have cq:=V.4;clear V a0 bl z;refine hK _ _ kP λig=>?_;clear hK;refine Xn 4 ?_;(iterate 4 refine Rm ?_);refine Yq ?_;have s:=al.o;rw[aq.o]at s;obtain⟨z,rfl⟩|⟨z,rfl,ho6⟩:=cb.o
   .go_wp2;go_ret;exact ad 7 _ vY (by rw[z]at s;exact s) (Xg o af)
   have e0:C0 (F::r)=0:=by rw[z]at s;exact s
   have be:=Y<|bd.o aq z;have cc:Q (J (GI (FZ l f q) 0 r)=q):=Y (by rw[zj,J_.o]);rw[J_.o]at ho6;generalize GI (FZ l f q) 0 r=b1 at*;have ba:=Y (Zk ho6 (by show Z w.1<=Z L.1;have:=o.4;omega));have a9:=Y λj=>b8 j e0;clear ho6 z s e0;go_wp2_with fail
   go_at_call 199
   refine YU (La n _ t k u p B g l f _ (y.keep<|Xg o af) a2 a3 b1) λw7 V_=>?_;have I_:=Y<|Xg (Xg o af) V_;cases hso:dx l f b1 u with
   |none=>
    go_wp2;go_ret;exact r9 I_ aa (a9 _<|G be hso) vY
   |some s'=>
    let⟨_,r0,r1⟩:=HQ w7<|Xg b3 V_;have ca:=Y (Zl ba λi e=>V_.5 i (ba.lt i e).2);have bc:=Y hso;clear V_ hso;go_wp2_with (go_at_call 200;refine YU (MC y I_ a3 (O_.keep I_ O_.1) (P_.keep I_ P_.1) a2 a7 a8 ca cc.symm O aq bc) λw8 ac=>?_;have ac:=Y ac)
    go_ret;let⟨cj,cm,cl,h8,k8⟩:=ac.o;exact⟨(Kb.of_below<|I_.mono aa).trans k8,aZ ⟨s',a9 _<|G be bc,R,cj,cm,cl,h8⟩⟩
structure p9(w:Ub)(R_ M b:N)(la:Uy)(ls:Vw):Prop where
 map:M<R_/\w.ownsMap prog 9 fh M 15 (OQ 3)
 op:2 < R_/\Yy w
 ter:1 < R_/\Yb w
 max:4 < R_/\ft w
 txt:b<R_
 lines:oO w b R_ la ls
theorem p9.keep{w':Ub}{ls}(h:p9 w n m k p ls)(a:Sw n w w'):p9 w' n m k p ls:=by
 refine⟨⟨h.1.1,?_⟩,⟨h.2.1,h.2.2.keep a h.2.1⟩,⟨h.3.1,h.3.2.keep a h.3.1⟩,⟨h.4.1,aX h.4.2.1 a.4,?_⟩,h.5,h.6.keep a h.5⟩
 .let⟨c,b,d,rest⟩:=h.1.2;exact⟨c,b,G (a.5 m h.1.1) d,rest⟩
 let⟨f,e⟩:=h.4.2.2;exact⟨f,oB a e h.4.1⟩
structure sW(w:Ub)(R_ M b:N)(la:Uy)(ls:Vw)(V:I)(B0:N)(OUT:Bd)(k:N)(s:NX)(va:Uy)(vn vc:N)(wr:Ub):Prop where
 below:Sw R_ w wr
 env:p9 wr R_ M b la ls
 st:Nq wr R_ (.map (S M)) V B0 s va vn vc
 tot:TT s<=Tn (ls.take k)
 run:dy (ls.drop k) (k+1) s=OUT
def sM(w a:World)(i M:N)(V:I)(b n:N)(d:Bd)(e:Ending):Prop :=
 Sw i w a/\match d with
  |.bad c l=>e=Rt (T2 c l)
  |.ok s=>match s.2 with
   |some _=>e=Rt (T2 8 ((n+1:N):I))
   |none=>e=Rt .nilIface/\TT s<=100000/\∃f h g,Nq a i (.map (S M)) V b s f h g
theorem KD{a c}(d:Sw n w v)(h:a=.bad c g)(b:T=g):sM w v n m t k B a (Rt (.iface 115 (Sa #[H c,H T]))):=by subst h b;exact⟨d,R⟩
theorem JA(C M p u){ls:Vw}(V i f h g Y_ e w)(K:Q (n=J ls))(ao:n<=100001)(L:Q (Tn ls<=100000))(O_:Q (sW w C M p u ls V i e 0 ⟨[],U⟩ f h g w)):
 Sk prog 107 #[Hn C,X u n Y_] w λj w'=>sM w w' C M V i n e j:=by
 go_in
 go_wp2
 go_loopw [10] (λt wr=>∃(k:N)(s:NX)(f:Uy)(h g:N),k<=n/\t=H k/\Q (sW w C M p u ls V i e k s f h g wr)) λt _=>n-(JB t).toNat
 .exact⟨0,_,_,_,_,aN,R,O_⟩
 obtain⟨k,s,f,h,g,hk,rfl,a⟩:=hrel;by_cases al:k<n
 .have o:k<J ls:=oN K.o
  let⟨W_,X_⟩:=a.3.4;have T:Tn (ls.take k)+J ls[k]<=Tn ls:=by rw[<-sr,<-X7 o];exact oJ ls<|k+1
  have S_:=L.o;have U_:=a.4;obtain⟨N_,aa,aq,rfl,hg,P_,o2,c2,rfl,q,B⟩:=a.2.6 k o;have y:=Y<|I7 (Y a.3) (Y ⟨oN a.2.1.1,a.2.1.2⟩) (Y a.2.2.2) (Y a.2.3.2) (Y a.2.4.2) (Y O) (Y R) q.1 q.2 O (Y B) (oN a.2.5);have z:Q (dy (ls.drop k) (k+1) s=match bk s ls[k]with|.bad c=>.bad c (k+1+1)|.ok b=>dy (ls.drop<|k+1) (k+1+1) b):=Y<|by rw[gZ o,dy]<;>cases bk s ls[k]<;>rfl
  have K_:Q (∀b,bk s ls[k]=.ok b->TT b<=Tn (ls.take<|k+1)):=Y (λb ab=>by have:=sw ab;rw[X7 o,sr];omega)
  have aj:J ls[k]<=100000:=O;clear q B T S_ U_ W_ X_;generalize ls[k]=v at*;cases hlp:bk s v with
  |bad c=>
   have d:Q (e=.bad c (k+1+1)):=Y (by rw[<-a.5,z.o,hlp]);generalize J v=Z_ at*
   go_wp2_with (go_at_call 163;refine y.mono ?_;rintro j x⟨l,m⟩;obtain⟨rfl,P⟩:j=Rt (H c)/\c≠0:=(by
    obtain⟨c',q1,q2,q3⟩|⟨b,q1,_⟩:=m;·rw[hlp]at q1;cases q1;exact⟨q3,q2⟩
    rw[hlp]at q1;cases q1);have H_:=Y l;have P_:=(jJ.2 P);clear l m P)
   go_ret;exact KD (a.1.trans<|H_.below (dU a.3.4.1) aA aA) d (by push_cast;omega)
  |ok b=>
   have d:Q (dy (ls.drop<|k+1) (k+1+1) b=e):=Y (by rw[<-a.5,z.o,hlp]);have J_:=Y<|K_.o b hlp;generalize J v=Z_ at*
   go_wp2_with (go_at_call 163;refine y.mono ?_;rintro j x⟨l,m⟩;obtain⟨rfl,Q_⟩:j=Rt (H 0)/\∃f h g,Nq x C (.map (S M)) V i b f h g:=(by
    obtain⟨c',q1,q2,q3⟩|⟨s2,q1,q2,q3⟩:=m;·rw[hlp]at q1;cases q1
    rw[hlp]at q1;cases q1;exact⟨q2,q3⟩);let⟨ac,af,ad,F⟩:=Q_;have I_:Q (sW w C M p (S ⟨N_,aa,U⟩) ls V i e (k+1) b ac af ad x):=Y (by
    have W:=l.below (dU a.3.4.1) aA aA;exact⟨a.1.trans W,a.2.keep W,F,J_,d⟩);clear l m F)
   exact⟨⟨k+1,_,_,_,_,O,gM,I_⟩,SA⟩
 have C_:k=J ls:=oN K.o;have r:=a.5;rw[C_,Am,dy]at r;have d:=Y r.symm;have c3:=a.3.1.4;clear r C_;let⟨ap,L_⟩:=s;cases L_ with
 |some pi=>
  go_wp2;go_ret;exact⟨a.1,by rw[d.o];show _=Rt (T2 8 _);unfold T2;push_cast;rfl⟩
 |none=>
  go_wp2;go_ret;exact⟨a.1,by rw[d.o];exact⟨R,aJ (aJ a.4<|oJ _ _) L,_,_,_,a.3⟩⟩
theorem LG{d}:nQ d=(gn<|C3 d 32).map (λb=>(Bo b:I)):=by
 unfold nQ gn Bf;by_cases c:(C3 d 32).all Y3=So
 .rw[aU c]
  match h:C3 d 32,c with
  |[],_=>rfl
  |[_],_=>rfl
  |[a,b],c=>
   dsimp only;by_cases e:a=[102,117,110,99]
   .cases hd:Ax b 4 with
    |true=>
     have f:Gb b=Bo b:=by unfold Gb;rw[aU hd]
     rw[aU ⟨R,e,by show 0<=Gb b;rw[f];omega⟩,aU ⟨c,e,R⟩];show S (Gb b)=_;rw[f];rfl
    |false=>
     have f:Gb b=-1:=by unfold Gb;rw[hd];rfl
     rw[aM (λq=>Sz q.2.2<|by show ¬0<=Gb b;rw[f];decide),aM λq=>Sz q.2.2 vY];rfl
   rw[aM λq=>e q.2.1,aM λq=>e q.2.1];rfl
  |_::_::_::_,_=>
   rw[aM λq=>by have:=q.1;simp at this];rfl
 rw[aM c,aM λq=>by have:=q.1;simp at this]
 match h:C3 d 32,c with
 |[],_=>rfl
 |[_],_=>rfl
 |[a,b],c=>
  dsimp only;rw[aM λq=>c q.1];rfl
 |_::_::_::_,_=>rfl
theorem ft.keep{w':Ub}(h:ft w)(k:Sw (Z w.1) w w'):ft w':=⟨aX h.1 k.4,by let⟨m,a⟩:=h.2;exact⟨m,oB k a h.1⟩⟩
theorem MN{s a c}(h:bk s a=.bad c):c≠0:=by
 unfold bk at h;split at h;·cases h;decide
 split at h
 .rename_i q;cases h;exact q
 cases hs:je s (Bf a)with
 |none=>rw[hs]at h;cases h;decide
 |some b=>rw[hs]at h;cases h
theorem Ab:∀(ls:Vw)(i:N)(s:NX){c:I}{l:N},dy ls i s=.bad c l->c≠0
 |[],_,_,_,_,h=>by cases h
 |a::ls,i,s,c,l,h=>by
  rw[dy]at h;cases hl:bk s a with
  |bad d=>rw[hl]at h;cases h;exact MN hl
  |ok b=>rw[hl]at h;exact Ab ls (i+1) b h
def M9(s:ByteArray)(c l:I):Uj:=.iface 183 (Sa #[Sg s,T2 c l])
def zI(w a:Ub)(o:jg)(e:Ending):Prop:=Sw (Z w.1) w a /\
 ((o.1=0/\o.2=0/\∃b c,e=Rt (St #[Sa #[Si S6 o.3.1,X b (J o.3.2) c],.nilIface])/\Xp a (Z w.1) (Z a.1) b o.3.2) \/
  (o.1≠0/\o=au o.1 o.2/\∃s,e=Rt (St #[Sa #[Si S6 0,X U 0 0],M9 s o.1 o.2])))
theorem nu{o:jg}{s c}(k:Sw (Z w.1) w v)(h:o=au c n)(a:c≠0)(b:t=n):zI w v o (Rt (St #[Sa #[H 0,Hq],.iface 183 (Sa #[Sg s,.iface 115 (Sa #[H c,H t])])])):=by subst h b;exact⟨k,aZ ⟨a,R,s,R⟩⟩
theorem Mn{b g}(h:sM w v n m t k B b g):∃d,g=Rt d/\Sw n w v/\((∃c l,b=.bad c l/\d=T2 c l)\/(∃a f,b=.ok ⟨a,S f⟩/\d=T2 8 ((B+1:N):I))\/∃a,b=.ok ⟨a,U⟩/\d=.nilIface/\TT ⟨a,U⟩<=100000/\∃i o j,Nq v n (.map (S m)) t k ⟨a,U⟩ i o j):=by
 let⟨e,h⟩:=h
 match b,h with
 |.bad c l,h=>exact⟨_,h,e,bC ⟨c,l,R,R⟩⟩
 |.ok ⟨a,S f⟩,h=>exact⟨_,h,e,aZ<|bC ⟨a,f,R,R⟩⟩
 |.ok ⟨a,U⟩,⟨h,h1,h2⟩=>exact⟨_,h,e,aZ<|aZ ⟨a,R,R,h1,h2⟩⟩
def ip(s:ByteArray)(c l:I):Uj:=St #[Sa #[Si S6 0,X U 0 0],.iface 183 (Sa #[Sg s,.iface 115 (Sa #[Si S6 c,Si S6 l])])]
theorem Jl(a2 ac c bl ad)(a:Wn)(w)(hx:Q (ac=J a))(br:ac<=c)(hc:c<=9223372036854775807)(ha:Q (Yx w bl ad a2 a))(F:Q (ft w))(hB:ad<=Z w.1)(l:Q (Yy w))(m:Q (Yb w)):
 Sk prog 61 #[X a2 ac c] w λi w'=>zI w w' (C2 a) i:=by
 let⟨s,q⟩:∃s,D w (Sc #[H 0,Hq] 45)=s:=⟨_,R⟩;have C:Q (Sw (Z w.1) w s):=Y (by rw[<-q];exact Xb (dC (Z w.1) w) _);have bv:Z w.1<Z s.1:=by rw[<-q,aO];omega
 have t:Q (∀W,Sw (Z s.1) s W->Sw (Z w.1) w W/\Z w.1<Z W.1/\E W (A (Z w.1) 0)=S (H 0)/\E W (A (Z w.1) 1)=S Hq/\∀L,W.frozen? (A (Z w.1) L)=Sn):=Y (λW K=>by have k2:=K.4;have kb:=K.5 (Z w.1) bv;exact⟨C.trans<|K.mono O,O,G (Xc kb) (by rw[<-q];simp),G (Xc kb) (by rw[<-q];simp),λL=>G (bJ kb) (by rw[<-q];simp)⟩)
 have a1:=Y<|IR hx br hc (Y<|ha.keep (C.mono hB)) (Y<|ft.keep F C) O
 go_in
 go_wp2_with fail
 clear q
 go_at_call 104
 refine a1.mono ?_;rintro i B⟨hq,Y_⟩;let⟨e,ca,r0,r1,rz⟩:=t B Y_;have O_:=Y e;have aj:=Y Y_;have F_:=Y hq;clear e Y_ hq;by_cases v:100000<J a
 .have d:Q (C2 a=au 1 0):=Y (by unfold C2;rw[aU v]);rw[F_.1 v];unfold T2;go_wp2
  all_goals
   refine cC (v:=ip ⟨#[116,101,120,116]⟩ 1 0) (by simp[ip,JC,results61,go_sem, *]) R ?_;exact nu ((O_.setCell aA _).setCell aA _) d vY R
 by_cases j:a.getLast?≠S 10
 .have d:Q (C2 a=au 2 0):=Y (by unfold C2;rw[aM v,aU j]);rw[F_.2.1 O j];unfold T2;clear j;go_wp2
  all_goals
   refine cC (v:=ip ⟨#[116,101,120,116]⟩ 2 0) (by simp[ip,JC,results61,go_sem, *]) R ?_;exact nu ((O_.setCell aA _).setCell aA _) d vY R
 have U_:=Classical.not_not.1 j;have a8:0<J a:=by cases a with|nil=>simp at U_|cons cg cf=>simp
 obtain⟨p,L,rfl,⟨_,b1⟩,-⟩:=ha 0 a8;let⟨f,g,z⟩:∃f g,C3 a.dropLast 10=f::g:=by
  have:0<J (C3 a.dropLast 10):=by unfold C3;rw[l8];omega
  match hcs:C3 a.dropLast 10,this with
  |f::g,_=>exact⟨f,g,R⟩
 have a7:J f<=100000/\Tn g<=100000/\J g<=100000:=by
  have q1:Tn (C3 a.dropLast 10)<=_:=pT 10 a.dropLast [];have q2:J (C3 a.dropLast 10)=a.dropLast.count 10+1:=by unfold C3;rw[l8]
  have q3:=List.count_le_length (a:=(10:UInt8)) (l:=a.dropLast);have q4:Tn (f::g)=J f+Tn g:=by simp[Tn]
  rw[z]at q1 q2;rw[tt]at q1 q3;simp only[bO]at q1;rw[bA]at q2;omega
 let⟨h,ab⟩:∃h,J g=h:=⟨_,R⟩;have R_:=Y ab;have k:Q (C2 a=p8 (f::g) (nQ f)):=Y (by unfold C2 Fa;rw[aM v,aM j,z];rfl);rw[LG]at k;obtain⟨b',o',P,K,ea,hg,hk,rfl,o⟩:=F_.2.2 O U_;cases ea;rw[z,bA,ab]at hk;subst hk;rw[z]at o;obtain⟨v0,ce,o1,c1,rfl,aa,a6⟩:=o.2 0 sP;have bq:=o.1;have bi:=Y o;have b4:(1:I)<=h+1:=O;have b5:(0:I)<h+1:=O;have bf:=Y a7;have b3:h<=100000:=O;have a5:p<Z B.1:=O;have ap:=Y<|IN p o1 (J f) c1 f B (Y R) aa.1 aa.2 O (Y a6) (Y<|(F.keep C).keep aj) a5;clear z ab j o aa a6 a7 a8 U_;go_wp2_with fail
 go_at_call 105
 refine YU ap λw2 Z_=>?_;have al:=Y<|Xg aj Z_;let⟨e,cb,s0,s1,sz⟩:=t w2 al;have P_:=Y e;have be:=Y Z_;clear Z_ e;cases hho:gn (C3 f 32)with
 |none=>
  have d:Q (C2 a=au 3 1):=Y (by rw[k.o,hho];rfl);unfold NV T2;clear hho;go_wp2
  all_goals
   refine cC (v:=ip ⟨#[104,101,97,100,101,114]⟩ 3 1) (by simp[ip,JC,results61,go_sem, *]) R ?_;exact nu ((P_.setCell aA _).setCell aA _) d vY R
 |some hf=>
  rw[hho]at k;dsimp only[Option.map]at k;dsimp only[NV];generalize (Bo hf:I)=V at*;let⟨u,T⟩:∃u,dy g 1 ⟨[],U⟩=u:=⟨_,R⟩;have o_:Q (C2 a=mi (h+1) V u):=Y (by rw[k.o,<-T];show mi (J (f::g)) V _=_;rw[bA,R_.o];rfl);have E_:Q (∀c r,u=.bad c r->c≠0):=Y λc r i=>Ab g 1 ⟨[],U⟩ (G T i);have ar:=Y T;clear T hho;have a0:=Y (λ(b:Ub)(M:N)(T_:Uy)(k3:Sw (Z B.1) B b)(hM:M<Z b.1)(bt:b.ownsMap prog 9 fh M 15 (OQ 3))(bp:h=0\/T_=S (A P 1))=>
   have z3:=k3.4;have ka:=Xb (dC (Z b.1) b) (Sc #[.map (S M),H V,Hq,Sb Sn] 189);have kx:=k3.trans<|ka.mono z3;have kw:=Xg O_ kx;have zz:=aO b<|Sc #[.map (S M),H V,Hq,Sb Sn] 189;have b6:=R_.o
   JA (Z b.1) M p T_ V (Z b.1+1) U 0 0 h u (D b<|Sc #[.map (S M),H V,Hq,Sb Sn] 189) (Y R_.symm) O (Y bf.2.1) (Y ⟨Rf,⟨⟨hM,bt.alloc _⟩,⟨oN l.1,l.keep kw l.1⟩,⟨oN m.1,m.keep kw m.1⟩,⟨oN F.1,F.keep kw⟩,O,λbb hi=>by
    obtain h0|rfl:=bp;·omega
    let⟨b0,hv,a9⟩:=bi.2 (bb+1) (by rw[bA];omega);rw[fO]at a9;exact⟨P,1,b0,R,O,by rw[yy 1 bb];exact oB kx hv bq,a9.keep<|kx.5 p a5⟩⟩,⟨⟨sP,sP,sP,sP⟩,gw.start _ _ O,λL=>sP,⟨O,O⟩⟩,by simp[TT,Xx],by rw[zC];exact ar⟩))
  go_wp2_with (first|(go_at_call 106;refine YU (I1 (Y<|l.keep P_ l.1) (Y<|m.keep P_ m.1)) λb⟨I_,X_⟩=>?_;have bh:=Y X_;have bx:=X_.lt;have bc:=Y<|Xg be I_;have Q_:=Y<|Xg al I_;have b7:=I_.4;let⟨e,cc,u0,u1,uz⟩:=t b Q_;clear I_ e X_)|(go_at_call 107;refine(a0 b _ _ bc bx bh<|MG).mono ?_;generalize (if h=0 then S ((A P 0):Addr)else S (A P 1))=T_;intro i N_ hq;obtain⟨v5,rfl,x,a4⟩:=Mn hq;have D_:=Y a4;have n:=Y x;clear x a4 hq))
  have x:=(Xb (dC (Z b.1) b) _).trans n;have ao:=Y<|Q_.trans (x.mono Q_.4);let⟨e,cd,t0,t1,tz⟩:=t N_ ao;have n:=Y e;clear e x;obtain⟨c,r,rfl,rfl⟩|⟨pre,pi,rfl,rfl⟩|⟨pre,rfl,rfl,ba,va5,vn5,vc5,hst5⟩:=D_.o
  .have d:Q (C2 a=au c r):=o_;have HC:=Y<|E_.o c r R;unfold T2;go_simp;go_wp2
   all_goals
    refine cC (v:=ip ⟨#[98,111,100,121]⟩ c r) (by simp[ip,JC,results61,go_sem, *]) R ?_;exact nu ((n.setCell aA _).setCell aA _) d HC R
  .have d:Q (C2 a=au 8 (h+1)):=o_;unfold T2;go_simp;go_wp2
   all_goals
    refine cC (v:=ip ⟨#[98,111,100,121]⟩ 8 ((h+1:N):I)) (by simp[ip,JC,results61,go_sem, *]) R ?_;exact nu ((n.setCell aA _).setCell aA _) d vY R
  have S_:=Y hst5;have bm:=hst5.1.2;have bn:=hst5.1.3;have a3:Z b.1<Z N_.1:=oN hst5.4;have ba:J pre+Xx pre<=100000:=ba;clear hst5;go_simp;go_wp2_with fail
  go_at_call 63
  refine(JK V va5 vn5 vc5 pre (Z b.1+1) (Z N_.1) N_ (Y S_.2.2.blks) (Y S_.2.1) (Y O) aA (Y (l.keep n l.1).old) (Y (m.keep n m.1).old)).mono ?_;rw[WY];rintro i w6⟨rfl,y⟩;have bd:=Y<|Xg ao y;let⟨e,b8,z0,z1,zz⟩:=t w6 bd;have af:=Y e;have aq:=Y y;have d1:=oB y bm a3;have d2:=oB y bn a3;clear y e;have az:Q (C2 a=if iu ⟨V,pre⟩=So then ⟨0,0,⟨V,pre⟩⟩else au 9 0):=Y o_.o;cases hvd:iu ⟨V,pre⟩with
  |false=>
   have d:Q (C2 a=au 9 0):=Y (by rw[az.o,hvd];rfl);go_wp2
   all_goals
    refine cC (v:=ip ⟨#[102,117,110,99,116,105,111,110]⟩ 9 0) (by simp[ip,JC,results61,go_sem, *]) R ?_;exact nu ((af.setCell aA _).setCell aA _) d vY R
  |true=>
   have d:Q (C2 a=⟨0,0,⟨V,pre⟩⟩):=Y (by rw[az.o,hvd];rfl);go_wp2;refine cC (v:=St #[Sa #[H V,X va5 vn5 vc5],.nilIface]) (by simp[JC,results61,go_sem, *]) R ?_;let⟨e5,bo⟩:=S_.2;have s6:=aq.4;refine⟨(af.setCell (p:=A (Z w.1) 0) aA (H V)).setCell (p:=A (Z w.1) 1) aA (X va5 vn5 vc5),bC ?_⟩;rw[d.o];refine⟨R,R,va5,vc5,by rw[show vn5=J pre from e5],?_⟩;exact(bo.blks.keepS λp v j=>G (G (cY<|by dsimp only;omega) (cY<|by dsimp only;omega)) (aq.5 p j)).mono O (by rw[Xd,Xd];omega)
section
open Go.Extern.Stop Go.Stop Go.Extern
theorem MU:
 Sk prog 62 #[.nilIface,a] w λe b=>e=Rt (Sb Sn)/\b=w:=by
 go_in
 go_wp2;go_ret;exact⟨R,R⟩
theorem Qo(t)(w:Ub):(ReflectliteValue.unpack<|.iface 117 (Sj (S t))).run prog w
 = .ok (Sa #[Sj (S ⟨7,117,U⟩),Sj (S ⟨Z w.1,0,U⟩),Si .u64 150]) (D w<|Sc #[Sj (S t)] 117):=vZ
theorem Tryz.typeP(a : Addr)(w : Ub): (ReflectliteValue.methodAny (ReflectliteValue.valueError "reflectlite.Value.Type" 0) (λt _ _ _ => ReflectliteType.toType t) #[Sa #[Sj (S ⟨7, 117, U⟩), Sj (S a), Si .u64 150]]).run prog w
 = .ok (.iface 278 (Sa #[Ho 7 117])) w:=vZ
theorem Qp(w:Ub):((ReflectliteType.abiMethod λt=>(λa:N=>Si IntKind.u8 (a:I)) <$> Rtype.kind t) #[Ho 7 117]).run prog w=.ok (Si .u8 22) w:=vZ
theorem Qq(w:Ub):((ReflectliteType.abiMethod λt=>(λa:N=>Si IntKind.u8 (a:I)) <$> Rtype.kind t) #[Ho 7 115]).run prog w=.ok (Si .u8 25) w:=vZ
theorem ze(z:Sem Uj)(f:TypeId->Addr->N->N->Sem Uj):ReflectliteValue.method z f #[A_]=(ReflectliteValue.parts A_ >>= λq=>match q with|none=>z|some (t,a,fl)=>f t a fl<|fl%32):=R
theorem Qr(a)(w:Ub):(ReflectliteValue.parts<|Sa #[Ho 7 117,Sj (S a),Si .u64 150]).run prog w=.ok (S (117,a,150)) w:=vZ
theorem Qs(a p)(W:Ub)(ha:E W a=S (Sj (S p))):
 (ReflectliteValue.method (ReflectliteValue.valueError "reflectlite.Value.IsNil" 0) ReflectliteValue.isNil #[Sa #[Sj (S ⟨7, 117, U⟩), Sj (S a), Si .u64 150]]).run Tryz.prog W = .ok (Sb Sn) W := by
 rw[ze];simp only[lG,Qr,Result.andThen];simp[ReflectliteValue.isNil,loadVar,isAgg,underlying,underlying117,ha,Result.andThen]
theorem Qt(w:Ub):(ReflectliteType.method ReflectliteType.elem #[Sa #[Ho 7 117]]).run prog w=.ok (.iface 278 (Sa #[Ho 7 115])) w:=vZ
theorem Tryz.implementsL(w : Ub): (ReflectliteType.relation "Implements" ReflectliteType.implements_ #[Sa #[Sj (S ⟨7, 115, U⟩)], .iface 278 (Sa #[Sj (S ⟨7, 111, U⟩)])]).run prog w = .ok (Sb So) w := by kernel_rfl
theorem Qu(v:Uj)(w:Ub):(ReflectliteType.typeOf #[.iface 115 v]).run prog w=.ok (.iface 278 (Sa #[Ho 7 115])) w:=vZ
theorem Qv(v:Uj)(w:Ub):(ReflectliteType.typeOf #[.iface 183 v]).run prog w=.ok (.iface 278 (Sa #[Ho 7 183])) w:=vZ
theorem Tryz.assignL(w : Ub): (ReflectliteType.relation "AssignableTo" ReflectliteType.assignableTo #[Sa #[Sj (S ⟨7, 115, U⟩)], .iface 278 (Sa #[Sj (S ⟨7, 115, U⟩)])]).run prog w = .ok (Sb So) w := by kernel_rfl
theorem Tryz.assignF(w : Ub): (ReflectliteType.relation "AssignableTo" ReflectliteType.assignableTo #[Sa #[Sj (S ⟨7, 183, U⟩)], .iface 278 (Sa #[Sj (S ⟨7, 115, U⟩)])]).run prog w = .ok (Sb Sn) w := by kernel_rfl
theorem Qw(c l:Uj)(w:Ub):(ReflectliteValue.unpack<|.iface 115 (Sa #[c,l])).run prog w
 = .ok (Sa #[Sj (S ⟨7,115,U⟩),Sj (S ⟨Z w.1,0,U⟩),Si .u64 153]) (D w<|Sc #[c,l] 115):=vZ
theorem Qx(w:Ub):(Rtype.elem? 117).run prog w=.ok (S 115) w:=vZ
theorem Qy(p)(w:Ub):(ReflectliteValue.mk 115 p ReflectliteValue.flagAddr).run prog w=.ok (Sa #[Ho 7 115,Sj (S p),Si .u64 409]) w:=vZ
theorem Qz(a p)(W:Ub)(ha:E W a=S (Sj (S p))):
 (ReflectliteValue.method (ReflectliteValue.valueError "reflectlite.Value.Elem" 0) ReflectliteValue.elem #[Sa #[Sj (S ⟨7, 117, U⟩), Sj (S a), Si .u64 150]]).run Tryz.prog W
  = .ok (Sa #[Ho 7 115,Sj (S p),Si .u64 409]) W:=by
 rw[ze];simp only[lG,Qr,Result.andThen];simp[ReflectliteValue.elem,loadVar,isAgg,underlying,underlying117,ha,Result.andThen,Qx,Qy]
end
section
open Go.Extern.Stop Go.Stop Go.Extern
theorem Tryz.methodKind(h : Uj)(w : Ub): (Go.method 544 278 (Sa #[h]) "Elem").run prog w = .ok (312, Sa #[h]) w := by kernel_rfl
theorem Tryz.methodImplements(h : Uj)(w : Ub): (Go.method 544 278 (Sa #[h]) "Implements").run prog w = .ok (313, Sa #[h]) w := by kernel_rfl
theorem Tryz.methodAssignableTo(h : Uj)(w : Ub): (Go.method 544 278 (Sa #[h]) "AssignableTo").run prog w = .ok (310, Sa #[h]) w := by kernel_rfl
theorem Tryz.methodUnwrap(s c : Uj)(w : Ub): (Go.method 544 183 (Sa #[s, c]) "Unwrap").run prog w = .ok (296, Sa #[s, c]) w := by kernel_rfl
theorem Q1(s c:Uj)(w:Ub):(Instr.typeAssert (.iface 183 (Sa #[s,c])) 111 283 So).run prog w=.ok (St #[.nilIface,Sb Sn]) w:=run_typeAssert_lacksB underlying283 vZ vZ ..
theorem Q2(s c:Uj)(w:Ub):(Instr.typeAssert (.iface 183 (Sa #[s,c])) 111 286 So).run prog w=.ok (St #[.iface 183 (Sa #[s,c]),Sb So]) w:=vZ
theorem Q3(a)(w:Ub):(ReflectliteValue.parts<|Sa #[Ho 7 115,Sj (S a),Si .u64 409]).run prog w=.ok (S (115,a,409)) w:=vZ
theorem Q4(a)(w:Ub):(ReflectliteValue.parts<|Sa #[Ho 7 115,Sj (S a),Si .u64 153]).run prog w=.ok (S (115,a,153)) w:=vZ
theorem Q5(w:Ub):(Rtype.directlyAssignable 115 115).run prog w=.ok So w:=vZ
end
section
open Go.Extern.Stop Go.Stop Go.Extern
theorem Q6(T b c l)(k d:Uj)(W:Ub)(g:E W ⟨b,0,U⟩=S (Si S6 c))(h:E W ⟨b,1,U⟩=S (Si S6 l))(i:E W ⟨T,0,U⟩=S k)(j:E W ⟨T,1,U⟩=S d)(a:∀o,W.frozen? ⟨T,o,U⟩=Sn):
 (ReflectliteValue.set #[Sa #[Sj (S ⟨7,115,U⟩),Sj (S ⟨T,0,U⟩),Si .u64 409],Sa #[Sj (S ⟨7,115,U⟩),Sj (S ⟨b,0,U⟩),Si .u64 153]]).run prog W
  = .ok (St #[]) (Se (Se W ⟨T,0,U⟩ (Si S6 c)) ⟨T,1,U⟩ (Si S6 l)):=by
 have e:E (Se W (A T 0) (H c)) (A T 1)=S d:=by exact G (cJ sP) j
 have f:(Se W (A T 0) (H c)).frozen? (A T 1)=Sn:=by simp[a]
 delta ReflectliteValue.set
 delta ReflectliteValue.set.match_3
 rw[dif_pos<|by rfl];simp only[Array.getLit,List.getElem_toArray,eM,fO];simp only[lG,Q3,Q4,Result.andThen];simp[ReflectliteValue.flagAddr,loadVar,loadCells,loadCellsFrom,g,h,Result.andThen,Q5,storeVar,Value.cells,storeCells,Addr.add];rw[run_store prog W (A T 0) _ _ (by rfl)];simp[i,a];rw[run_store prog _ (A T 1) _ _ (by rfl)];simp[e,f]
theorem Tryz.methodKindP(h : Uj)(w : Ub): (Go.method 544 278 (Sa #[h]) "Kind").run prog w = .ok (285, h) w := by kernel_rfl
def PT(w:Ub)(T:N)(s:Uj)(c l:I):Ub :=
 Se (Se (D (D (D (D (D w<|Sc #[Sj (S ⟨T,0,U⟩)] 117) (Sc #[Sj (S ⟨7,117,U⟩),Sj (S ⟨Z w.1,0,U⟩),Si .u64 150] 194)) (Sc #[Sj (S ⟨7,117,U⟩),Sj (S ⟨Z w.1,0,U⟩),Si .u64 150] 194)) (Sc #[s,.iface 115 (Sa #[Si S6 c,Si S6 l])] 183)) (Sc #[Si S6 c,Si S6 l] 115)) ⟨T,0,U⟩ (Si S6 c)) ⟨T,1,U⟩ (Si S6 l)
theorem MT{T}(s:Uj)(c l){o1 o2:Uj}{w:Ub}(hg:E w (A 0 0)=S (.iface 278 (Sa #[Ho 7 111])))(ht0:E w (A T 0)=S o1)(ht1:E w (A T 1)=S o2)(hf0:∀o,w.frozen? (A T o)=Sn):
 Sk prog 62 #[.iface 183 (Sa #[s,.iface 115 (Sa #[H c,H l])]),.iface 117 (Hn T)] w λev w'=>ev=Rt (Sb So)/\w'=PT w T s c l:=by
 have x0:=@run_callFunc_extern prog 108 _ (λargs=>ReflectliteValue.unpack<|args.getD 0 (St #[])) func108 vZ vZ vZ vZ;have x1 := @run_callFunc_extern Tryz.prog 109 _ (ReflectliteValue.methodAny (ReflectliteValue.valueError "reflectlite.Value.Type" 0) λt _ _ _ => ReflectliteType.toType t) Tryz.func109 vZ vZ vZ vZ;have x2 := @run_callFunc_extern Tryz.prog 110 _ (ReflectliteValue.method (ReflectliteValue.valueError "reflectlite.Value.IsNil" 0) ReflectliteValue.isNil) Tryz.func110 vZ vZ vZ vZ;have x3:=@run_callFunc_extern prog 285 _ (ReflectliteType.abiMethod λt=>do pure (Si .u8 (<-Rtype.kind t))) func285 vZ vZ vZ vZ;have x4:=@run_callFunc_extern prog 312 _ (ReflectliteType.method ReflectliteType.elem) func312 vZ vZ vZ vZ;have x5 := @run_callFunc_extern Tryz.prog 313 _ (ReflectliteType.relation "Implements" ReflectliteType.implements_) Tryz.func313 vZ vZ vZ vZ;have x6:=@run_callFunc_extern prog 164 _ ReflectliteType.typeOf func164 vZ vZ vZ vZ;have x7 := @run_callFunc_extern Tryz.prog 310 _ (ReflectliteType.relation "AssignableTo" ReflectliteType.assignableTo) Tryz.func310 vZ vZ vZ vZ;have x8 := @run_callFunc_extern Tryz.prog 165 _ (ReflectliteValue.method (ReflectliteValue.valueError "reflectlite.Value.Elem" 0) ReflectliteValue.elem) Tryz.func165 vZ vZ vZ vZ
 have x9:=@run_callFunc_extern prog 166 _ ReflectliteValue.set func166 vZ vZ vZ vZ;have y0:=Qu;have y1:=Qv;have y2:=Tryz.methodAssignableTo;have y3:=Tryz.assignL;have y4:=Tryz.assignF;have y5:=Qw;have y6:=Qo;have y7:=Tryz.typeP;have y8:=Tryz.methodKindP;have y9:=Tryz.methodKind;have y10:=Tryz.methodImplements;have y11:=Qp;have y12:=Qq;have y13:=Qt;have y14:=Tryz.implementsL;have y15:=Q1;have y16:=Q2;have y17:=Tryz.methodUnwrap;have hlt:0 < Z w.1:=aI w _ hg;have htl:T<Z w.1:=aI w _ ht0;have hg2:E (D (D w<|Sc #[Hn T] 117) (Sc #[Ho 7 117,Hn (Z w.1),Si .u64 150] 194)) (A 0 0)=S (.iface 278 (Sa #[Ho 7 111])):=by rw[bP _ _ (A 0 0) (by simp only[aO];omega),bP _ _ (A 0 0) hlt];exact hg
 have n8:=Qs (A (Z w.1) 0) (A T 0) (D (D w<|Sc #[Hn T] 117) (Sc #[Ho 7 117,Hn (Z w.1),Si .u64 150] 194)) sP;have b4:Sw (Z w.1) w (D (D (D (D w<|Sc #[Hn T] 117) (Sc #[Ho 7 117,Hn (Z w.1),Si .u64 150] 194)) (Sc #[Ho 7 117,Hn (Z w.1),Si .u64 150] 194)) (Sc #[s,.iface 115 (Sa #[H c,H l])] 183)):=Xb (Xb (Xb (Xb Rf _) _) _) _;have b5:Sw (Z w.1) w (D (D (D (D (D w<|Sc #[Hn T] 117) (Sc #[Ho 7 117,Hn (Z w.1),Si .u64 150] 194)) (Sc #[Ho 7 117,Hn (Z w.1),Si .u64 150] 194)) (Sc #[s,.iface 115 (Sa #[H c,H l])] 183)) (Sc #[H c,H l] 115)):=Xb b4 _;have el:=Qz (A (Z w.1) 0) (A T 0) (D (D (D (D w<|Sc #[Hn T] 117) (Sc #[Ho 7 117,Hn (Z w.1),Si .u64 150] 194)) (Sc #[Ho 7 117,Hn (Z w.1),Si .u64 150] 194)) (Sc #[s,.iface 115 (Sa #[H c,H l])] 183)) (by rw[bP _ _ (A (Z w.1) 0) SB,bP _ _ (A (Z w.1) 0) SB];simp);have st:=Q6 T (Z w.1+1+1+1+1) c l o1 o2 (D (D (D (D (D w<|Sc #[Hn T] 117) (Sc #[Ho 7 117,Hn (Z w.1),Si .u64 150] 194)) (Sc #[Ho 7 117,Hn (Z w.1),Si .u64 150] 194)) (Sc #[s,.iface 115 (Sa #[H c,H l])] 183)) (Sc #[H c,H l] 115))
  (by rw[World.cell?_alloc_at _ _ _ _ sP];rfl) (by rw[World.cell?_alloc_at _ _ _ _ sP];rfl)
  (oB b5 ht0 htl) (oB b5 ht1 htl) λo=>G (bJ<|b5.5 T htl) (hf0 o)
 go_in
 go_wp2;refine wp_loop_rounds 2 ?_;rw[rounds_succ];go_wp2;rw[rounds_succ];go_wp2;go_ret;exact⟨R,R⟩
end
def ErrT(w:Ub):Prop:=E w ⟨0,0,U⟩=S (.iface 278 (Sa #[Sj (S ⟨7,111,U⟩)]))
theorem ErrT.keep{w':Ub}(h:ErrT w)(k:Sw (Z w.1) w w'):ErrT w':=G (k.cell<|aI w _ h) h
theorem Ly{c}(h:Sw (Z w.1) w v)(b:Z w.1<=n):Sw (Z w.1) w (PT v n a c t) :=
 (((((((h.alloc h.4 _).alloc (by have:=h.4;simp only[aO];omega) _).alloc (by have:=h.4;simp only[aO];omega) _).alloc (by have:=h.4;simp only[aO];omega) _).alloc (by have:=h.4;simp only[aO];omega) _).setCell b _).setCell b _)
theorem LE{T c}{o1 o2:Uj}(h:v=PT w T a c t)(d:E w (A T 0)=S o1)(i:E w (A T 1)=S o2):
 E v (A T 0)=S (H c)/\E v (A T 1)=S (H t)/\(∀b,b<Z w.1->b≠T->v.1[b]?=w.1[b]?)/\Z w.1<=Z v.1:=by
 have e:=aI w _ d;subst h;unfold PT;generalize j:D (D (D (D (D w<|Sc #[Hn T] 117) (Sc #[Ho 7 117,Hn (Z w.1),Si .u64 150] 194)) (Sc #[Ho 7 117,Hn (Z w.1),Si .u64 150] 194)) (Sc #[a,.iface 115 (Sa #[H c,H t])] 183)) (Sc #[H c,H t] 115)=W;have k:Sw (Z w.1) w W:=by rw[<-j];exact Xb (Xb (Xb (Xb (Xb Rf _) _) _) _) _
 have g:=oB k d e;have e1:=oB k i e;have e2:E (Se W (A T 0) (H c)) (A T 1)=S o2:=G (cJ sP) e1;refine⟨?_,fQ _ _ _ e2,λb l f=>?_,by rw[Xd,Xd];exact k.4⟩;·exact G (cJ sP) (fQ _ _ _ g)
 exact G (cY f) (G (cY f) (k.5 b l))
theorem Lp{t:Wn}(P_:Q (n=J t))(aa:n<=c)(Z_:c<=9223372036854775807)(ha:Q (Yx w m k p t))(M_:Q (ft w))(Y_:k<=Z w.1)(C_:Q (Yy w))(D_:Q (Yb w))(q:Q (ErrT w)):
 Sk prog 28 #[X p n c] w λe u=>∃val,e=Rt val/\Sw (Z w.1) w u/\nN u (Z w.1) (Z u.1) val (C2 t):=by
 have g:=Xb (dC (Z w.1) w) (Sc #[H 0,H 0,H 0,Hq] 47);have ac:Z (D w<|Sc #[H 0,H 0,H 0,Hq] 47).1=Z w.1+1:=aO _ _;have v:=Y<|Jl p n c m k t (D w<|Sc #[H 0,H 0,H 0,Hq] 47) P_ aa Z_ (Y<|ha.keep (g.mono Y_)) (Y<|ft.keep M_ g) O (Y<|C_.keep g C_.1) (Y<|D_.keep g D_.1);have L_:Q (∀W,Sw (Z (D w<|Sc #[H 0,H 0,H 0,Hq] 47).1) (D w<|Sc #[H 0,H 0,H 0,Hq] 47) W->Sw (Z w.1) w W/\Z w.1<Z W.1/\E W (A (Z w.1) 0)=S (H 0)/\E W (A (Z w.1) 1)=S (H 0)/\E W (A (Z w.1) 2)=S (H 0)/\E W (A (Z w.1) 3)=S Hq/\(∀o,W.frozen? (A (Z w.1) o)=Sn)/\ErrT W):=Y (λW F=>by have k2:=F.4;have b:=F.5 (Z w.1) O;have a:=g.trans<|F.mono O;exact⟨a,O,G (Xc b) sP,G (Xc b) sP,G (Xc b) sP,G (Xc b) sP,λo=>G (bJ b) sP,ErrT.keep q a⟩)
 clear g;generalize C2 t=o at*;by_cases C:o.1=0
 .have y:Q (Sk prog 61 #[X p n c] (D w<|Sc #[H 0,H 0,H 0,Hq] 47) λe d=>∃f j,e=Rt (St #[Sa #[H o.3.1,X f (J o.3.2) j],.nilIface])/\Sw (Z (D w<|Sc #[H 0,H 0,H 0,Hq] 47).1) (D w<|Sc #[H 0,H 0,H 0,Hq] 47) d/\Q (o.2=0/\Xp d (Z (D w<|Sc #[H 0,H 0,H 0,Hq] 47).1) (Z d.1) f o.3.2)):=Y (v.mono (λe d z=>by
   obtain⟨a,⟨_,i,f,j,l,B⟩|⟨h,_⟩⟩:=z;·exact⟨f,j,l,a,⟨i,B⟩⟩
   exact Sz C h))
  go_in
  go_wp2_with (go_at_call 61;refine y.mono ?_;rintro e d⟨f,j,rfl,r,N_⟩;let⟨a,O_,K,L,M,P,rz,_⟩:=L_ d r;have x:=Y a;clear r a)
  go_wp2_with (go_at_call 62;refine YU MU ?_;rintro w2 rfl)
  go_wp2;refine YL (v:=Sa #[H 0,H 0,H o.3.1,X f (J o.3.2) j]) ?_;refine⟨_,R,?_,f,j,?_,?_⟩;·exact Xb (Xb (x.setCell aA _ |>.setCell aA _ |>.setCell aA _ |>.setCell aA _) _) _
  .rw[C,N_.1];rfl
  refine(N_.2.keepS λab h i=>?_).mono O ?_;·rw[gF _ _ _ SB,gF _ _ _ SB,cY SG,cY SG,cY SG,cY<|by dsimp only;omega]
  simp;omega
 have y:Q (Sk prog 61 #[X p n c] (D w<|Sc #[H 0,H 0,H 0,Hq] 47) λe d=>∃s,e=Rt (St #[Sa #[H 0,Hq],.iface 183 (Sa #[Sg s,.iface 115 (Sa #[H o.1,H o.2])])])/\Sw (Z (D w<|Sc #[H 0,H 0,H 0,Hq] 47).1) (D w<|Sc #[H 0,H 0,H 0,Hq] 47) d/\Q (o=au o.1 o.2)):=Y (v.mono (λe d z=>by
  obtain⟨a,⟨h,_⟩|⟨_,i,s,l⟩⟩:=z;·exact Sz h C
  exact⟨s,l,a,i⟩))
 have S_:Q (∀(W:Ub)(T:N)(s:ByteArray),ErrT W->E W (A T 0)=S (H 0)->E W (A T 1)=S (H 0)->(∀Q_,W.frozen? (A T Q_)=Sn)->Sk prog 62 #[.iface 183 (Sa #[Sg s,.iface 115 (Sa #[H o.1,H o.2])]),.iface 117 (Hn T)] W λX_ u=>X_=Rt (Sb So)/\u=PT W T (Sg s) o.1 o.2):=Y λW T s h i l B=>MT (Sg s) o.1 o.2 h i l B
 go_in
 go_wp2_with (go_at_call 61;refine y.mono ?_;rintro e d⟨s,rfl,r,K_⟩;let⟨a,O_,K,L,M,P,rz,q⟩:=L_ d r;have x:=Y a;have V_:=Y q;clear r a)
 go_wp2_with (go_at_call 62;refine YU (S_ _ _ _ (ErrT.keep V_<|Xb (Xb Rf _) _) sP sP λQ_=>sP) λR_ V=>?_;let⟨f0,f1,f2,f3⟩:=LE (T:=Z d.1+1) (o1:=H 0) (o2:=H 0) V sP sP;have b:=G (f2 (Z w.1) SB O) (G (gF _ _ _<|by simp;omega) (gF _ _ _ O_));have s0:=G (Xc b) K;have s1:=G (Xc b) L;have s2:=G (Xc b) M;have s3:=G (Xc b) P;have sz:=λo=>G (bJ (a:=(A (Z w.1) o)) b) (rz o);(have U_:Q (Sw (Z w.1) w R_):=Y<|by rw[V];exact Ly (Xb (Xb x _) _) O);have ad:Z w.1<Z R_.1:=(by simp at f3;omega);clear V b f2 f3 K L M P rz)
 refine YL (v:=Sa #[H o.1,H o.2,H 0,Hq]) ?_;refine⟨_,R,?_,U,0,?_,?_⟩;·exact(U_.setCell aA _ |>.setCell aA _ |>.setCell aA _ |>.setCell aA _)
 .rw[K_.o];rfl
 rw[K_.o];exact λaf hi=>Sz hi<|by simp[au]
