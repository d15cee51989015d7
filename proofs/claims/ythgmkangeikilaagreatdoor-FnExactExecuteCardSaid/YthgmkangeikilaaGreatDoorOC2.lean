import Derived.Test.YthgmkangeikilaaGreatDoorPT0
namespace Go.Proofs.YthgmkangeikilaaGreatDoor
set_option maxHeartbeats 4000000
set_option maxRecDepth 100000
open _root_ renaming Array.size->Z,Nat->N,rfl->R,List.range->Rg,List.length->J,Int->I,Bool.true->So,Bool.false->Sn,Option.some->S,Option.none->U,absurd->Sz,Decidable.decide->Jd,trivial->JV
open Value renaming agg->Sa,slice->X,int->Si,pointer->Sj,tuple->St,bool->Sb,string->Sg
open Go renaming Ending.returned->Rt,RowKit.Below->Sw,Calls->Sk,RowKit.intOf->JB,World.cell?->E,World.alloc->D,World.setCell->Se,World.ownsRow->Sx,IntKind.i64->S6,Obj.cells->Sc,results->JC,undef->Su
open Go.RowKit Go.Proofs.Tryz Go.Shelf
variable{r:Bool}{t T z:I}{n m k B g i j c:N}{w v u:Ub}{a A_:Uj}{p P:Uy}{h:Vu}{s:Wa}{l L:Wc}{x:Wi}{f F:Wk}{y:Wo}
def NO(W:Wk)(K:N):N:=(Rg<|64*K).countP λx=>Xh W x
theorem Bh(W K):NO W (K+1)=NO W K+NZ 8 (W K):=by unfold NO NZ;have e:64*(K+1)=64*K+8*8:=O;rw[e,lI,lN,List.countP_map];congr 1;apply kK;intro i a;have:i<64:=bE.1 a;have e1:(64*K+i)/64=K:=O;have e2:(64*K+i)%64=i:=O;simp only[Function.comp,Xh,e1,e2]
theorem TB(W K):NO W K<=64*K:=aJ (mW) sP
theorem P7(f:N)(m:f=67\/f=134)(g K C W w)(l:Q (XA W))(c:Q (Cp w g K C W))(hK:K<=1000):
 Sk prog f #[Sa #[Hl g K C]] w λe r=>e=Rt (H (NO W K:N))/\Sw (Z w.1) w r:=by
 have n:=c.lt;obtain rfl|rfl:=m
 go_in
 rotate_left
 go_in
 rotate_left
 all_goals (
  go_wp2
  go_loopw [3,9] (λu i wr=>∃k:N,k<=K/\i=H k/\u=H (NO W k:N)/\Q (Sw (Z w.1) w wr)) λ_ i _=>K-(JB i).toNat
  .exact⟨0,aN,R,R,Y<|Xb Rf _⟩
  case round=>
   obtain⟨k,v,rfl,rfl,a⟩:=hrel;by_cases p:k<K
   .have t:=oB a (c.cell p) n;have q:=l k;have b:=Y<|Bh W k;have x:=TB W k;have o:=TB W<|k+1;rw[b.o]at o;generalize NO W k=c0 at*;generalize W k=j at*;have h:=Y<|AZ wr q;generalize NZ 8 j=y at*;go_wp2_with (go_at_call 130;refine YU h λs d=>?_;rw[d];clear d s)
    exact⟨⟨k+1,O,gM,by rw[b.o];go_num,a⟩,SA⟩
   have e:k=K:=O;subst e;go_wp2;go_ret
   exact⟨R,a⟩)
abbrev Kl:=@P7 67<|bC R
section
attribute [local go_sem] Oper.semAt_some
theorem qV:NO f n=J (Mq f<|64*n):=by unfold NO Mq;rw[gK]
end
def Jq(a:Wi):Prop:=∀b,b<J a->Re (X8 a) b
open Classical in
noncomputable def Ft(v:I)(a:Wi):I:=if XJ ⟨v,a⟩=Sn then 9 else if ¬Jq a then 10 else if ∃x,N4 a x then 11 else 0
theorem vC:∀(n:N)(F:Wa),(∀b,b<n->b∈F)->n<=J F
 |0,_,_=>aN
 |n+1,F,h=>by have c:=vC n (F.erase n) λb d=>(iF O).2 (h b O);have a:=h n O;rw[fP a]at c;have:=eJ a;omega
theorem uQ(g:UF x){F:Wa}(f:F.Nodup)(d:∀a,a∈F↔Re (X8 x) a):J F<=J x/\(J F=J x↔Jq x):=by
 have k:=YS f λa b=>g.re a<|(d a).1 b;refine⟨k,λh c e=>?_,λh=>?_⟩
 .apply dQ
  intro j;have l:=fL.2 ⟨λi=>j<|(d c).1 i,f⟩;have:=YS (n:=J x) l (λa b=>by
   obtain rfl|b:=cH.1 b;·exact e
   exact g.re a<|(d a).1 b)
  rw[bA]at this;omega
 have:=vC (J x) F λc e=>(d c).2 (h c e);omega
open Classical in
theorem Uh(h:XJ ⟨t,x⟩=Sn):Ft t x=9:=by unfold Ft;rw[aU h]
open Classical in
theorem t9(h:XJ ⟨t,x⟩=So)(k:¬Jq x):Ft t x=10:=by unfold Ft;rw[aM (by rw[h];decide),aU k]
open Classical in
theorem qg(h:XJ ⟨t,x⟩=So)(k:Jq x)(m:∃a,N4 x a):Ft t x=11:=by unfold Ft;rw[aM (by rw[h];decide),aM λq=>q k,aU m]
open Classical in
theorem uP(h:XJ ⟨t,x⟩=So)(k:Jq x)(m:¬∃a,N4 x a):Ft t x=0:=by unfold Ft;rw[aM (by rw[h];decide),aM λq=>q k,aM m]
theorem Vcn{value:I}{q r y C u:N}{F:I}{K:Uy}{M V:N}{o b xb:N}{W K_:Wc}{Bt:N}(e:Q (Vai w w n p m k B g P i j t T value c q r y C u z F K M V Bt l L W K_))(H_:Q (q=J l))(hh:Q (J L=32))(hD:o<q)(hA:b<q)(Z_:n<Bt)(ab:c<Bt)(ao:B<Bt)(C_:n≠c)(aa:n≠B)(Y_:Bt<=Z w.1):
 Sk prog 80 #[Hn n,.iface 256 (Sa #[H 8,H o,H b,H xb])] w
  λf d=>f=Rt (H 0)/\Vai w d n p m k B g P i j t T value c q r y C u z F K M V Bt (l.set o<|Vc4 L (Vc4 l b%32)) L W K_:=by
 have h:=λo_=>Xb (dC (Z w.1) w) o_;have c6:=λx=>G ((h x).cell (p:=A n 6) (by show n<_;omega)) e.2.1.7;have n1:Z w.1≠n:=O;have n2:Z w.1≠c:=O;have n3:n≠Z w.1:=O;have n4:c≠Z w.1:=O;have n5:c≠n:=λf=>C_ f.symm;have n6:B≠n:=λf=>aa f.symm;have n7:B≠Z w.1:=O;have ac:=e.2.2.1.4;have ap:B≠c:=λf=>ac f.symm;have y_:b<J l:=by have:=H_.o;omega
 have V_:=e.2.2.1.1.2 b y_;obtain⟨a,s⟩:∃a:N,l[b]%32=a:=bX<|mR l[b] (b:=32) vY;have aq:a<32:=O;have F_:a<J L:=by have:=hh.o;omega
 have ar:(0:I)<=a:=O;have az:(a:I)<32:=O;have R_:=e.2.2.1.2.2 a F_;have ad:=e.2.2.1.2.frozen a;have E_:Vc4 L (Vc4 l b%32)=L[a]:=by rw[Vax y_,s,Vax F_]
 rw[E_];have A_:o<J l:=by have:=H_.o;omega
 have W_:=e.2.2.1.1.2 o A_;have X_:=e.2.2.1.1.frozen o;have S_:=λx=>Y<|(((e.next Y_ Z_<|h x).setV ab C_ A_ L[a])).drew.drew;have U_:=Y s;clear s E_;generalize l[o]=VD at*;generalize l[b]=VA at*;generalize L[a]=VH at*;have cd:=λx=>G ((h x).cell (p:=A c o) (by show c<_;omega)) W_;have cz:=λx=>G ((h x).frozen (p:=A c o) (by show c<_;omega)) X_;have aj:=λx=>G ((h x).cell (p:=A c b) (by show c<_;omega)) V_;have al:=λx=>G ((h x).cell (p:=A B a) (by show B<_;omega)) R_;have c1:=λx=>G ((h x).cell (p:=A n 1) (by show n<_;omega)) e.2.1.2;have af:=λxT v w=>VaG underlying256 xT v w;have NC:=λxT v w=>Vaz (t:=256) underlying253 Vdv vY xT v w;have NA:=λxT v w=>Vaz (t:=256) underlying255 Vdu vY xT v w
 go_in
 go_wp2
 go_region_held3 (λd=>E d (A n 6)=S (Hl c q r)/\E d (A n 1)=S (Hl B 32 g)/\E d (A (Z w.1) 2)=S (H b)/\E d (A c b)=S (H VA)) (go_keep) (first|(go_at_call 150;refine YU Va8 ?_;rintro w1 rfl;rw[Xw U_]))
 go_wp2
 go_region_held3 (λd=>E d (A n 6)=S (Hl c q r)/\E d (A (Z w.1) 1)=S (H o)/\E d (A B a)=S (H VH)) (go_keep) (fail)
 go_wp2;go_ret;exact⟨R,(S_ _).o⟩
theorem VcK{value:I}{f s M_ aa S_:N}{pc:I}{X_:Uy}{Z_ Y_:N}{a:N}{C K:Wc}{Bt:N}(u:Q (Vai w w n p m k B g P i j t T value c f s M_ aa S_ z pc X_ Z_ Y_ Bt l L C K))(a6:Q (f=J l))(hA:a<f)(bm:i<=1000000)(hR:n<Bt)(a5:c<Bt)(a4:B<Bt)(ap:n≠c)(ao:n≠B)(hB:Bt<=Z w.1):
 Sk prog 80 #[Hn n,.iface 259 (Sa #[H a])] w
  λe M=>e=Rt (H 0)/\∃bb a9 a3,Vai w M n p m k B g bb a9 a3 t T value c f s M_ aa S_ z pc X_ Z_ Y_ Bt l L (C++[Vc4 l a]) K:=by
 have O_:=λo_=>Xb (dC (Z w.1) w) o_;have c6:=λx=>G ((O_ x).cell (p:=A n 6) (by show n<_;omega)) u.2.1.7;have n1:Z w.1≠n:=O;have n2:Z w.1≠c:=O;have n3:n≠Z w.1:=O;have n4:c≠Z w.1:=O;have n5:c≠n:=λe=>ap e.symm;have n6:B≠n:=λe=>ao e.symm;have n7:B≠Z w.1:=O;have a7:=u.2.2.1.4;have bl:B≠c:=λe=>a7 e.symm;have al:a<J l:=by have:=a6.o;omega
 rw[Vax al];have ad:=u.2.2.1.1.2 a al;obtain⟨i0,aq,a0,a1,a2⟩:=fX RH;have bw:=λx y=>Xb (Xb (dC (Z w.1) w) x).drew y;have az:=u.2.2.1.len;have V:Sx w Bt 2 1 (X P i j) i (C.map<|Si S6):=by have aj:=u.2.2.1.3;rw[<-az]at aj;exact aj
 have ac:∀x y,Sx (D ((D w x).drew) y) Bt 2 1 (X P i j) i (C.map<|Si S6):=λx y=>Vay V λq e=>(bw x y).5 q (V.lt q e).2;have ar:∀q,Z w.1<=q->S q≠(X P i j).ownBlock:=λq hq e=>by have:=(V.lt q e.symm).2;omega
 have J_:∀q,q<Bt->S q≠(X P i j).ownBlock:=λq hq e=>by have:=(V.lt q e.symm).1;omega
 have HP:∀(x y:Obj)(d r:N)(b:Ub),Sx b Bt 2 1 (Hl d (i+1) r) (i+1) (C.map (Si S6)++[H l[a]])->(D ((D w x).drew) y).grownBy b (X P i j).ownBlock->((X P i j).ownBlock=S d\/d=Z w.1+1+1) ->
  Vai w (Se b (A n 2) (Hl d (i+1) r)) n p m k B g (S ⟨d,0,U⟩) (i+1) r t T value c f s M_ aa S_ z pc X_ Z_ Y_ Bt l L (C++[l[a]]) K:=λx y d r b ho hg F=>
  (u.next hB hR<|bw x y).push hR a5 a4 ap ao (by have:=(bw x y).4;omega) ho hg (F.imp id λe=>by rw[e];simp)
 clear az V;generalize l[a]=VA at*;have R_:∀x y,E (D ((D w x).drew) y) (A n 6)=S (Hl c f s):=λx y=>G ((bw x y).cell (p:=A n 6) (by show n<_;omega)) u.2.1.7;have Q_:∀x y,E (D ((D w x).drew) y) (A n 2)=S (X P i j):=λx y=>G ((bw x y).cell (p:=A n 2) (by show n<_;omega)) u.2.1.3;have af:∀x y,(D ((D w x).drew) y).frozen? (A n 2)=Sn:=λx y=>G ((bw x y).frozen (p:=A n 2) (by show n<_;omega)) (u.2.1.fz 2);have U_:∀x y,E (D ((D w x).drew) y) (A c a)=S (H VA):=λx y=>G ((bw x y).cell (p:=A c a) (by show c<_;omega)) ad;have bd:∀x,E (D w x) (A n 2)=S (X P i j):=λx=>G ((O_ x).cell (p:=A n 2) (by show n<_;omega)) u.2.1.3;have bh:∀x,E (D w x) (A c a)=S (H VA):=λx=>G ((O_ x).cell (p:=A c a) (by show c<_;omega)) ad;have bf:∀x y,E (D (D w x) y) (A n 6)=S (Hl c f s):=R_;have be:∀x y,E (D (D w x) y) (A n 2)=S (X P i j):=Q_;have bi:∀x y,E (D (D w x) y) (A c a)=S (H VA):=U_;have bc:=λxT v w=>VaG underlying259 xT v w;have NC:=λxT v w=>Vaz (t:=259) underlying253 Vdv vY xT v w;have NA:=λxT v w=>Vaz (t:=259) underlying255 Vdu vY xT v w;have NH:=λxT v w=>Vaz (t:=259) underlying256 Vdw vY xT v w
 go_in
 go_wp2;refine Y7 (λM=>E M (A n 6)=S (Hl c f s)/\E M (A (Z w.1) 0)=S (H a)/\E M (A c a)=S (H VA)) λig=>?_;refine Xn 0 ?_;(iterate 3 refine Rm ?_);refine Xn 5 ?_;(iterate 7 refine Rm ?_);refine eS (rs:=[4,13]) vZ sP ?_;refine(bQ R (λK hK=>?_) (bQ R (λK hK=>?_) dY))
 .skip
  go_simp;refine hK _ _ kP λig=>?_;clear hK
  try simp only[Act.put,xA,xB,xC,xD,xE,xF]
  refine Xs 13 λK hK=>?_;go_simp;refine hK _ _ kP λig=>?_;clear hK;refine Xs 14 λK hK=>?_;refine XC _ R (.tmp 115) (.tmp 124) 23 R Bt 2 i0 (H 0) 1 8 underlying23 aq a0 a1 a2 R vY (X P i j) i (C.map<|Si S6) SE (ac _ _) (A (Z w.1+1) 0) 1 1 [H VA] SE R ?_ (by intro ab W;simp at W;subst W;rfl) vY SD O SB (Z w.1+1+1) sP ?_
  .intro W_ ab o
   match W_,o with
   |0,o=>simp at o;subst o;simp[Addr.add,go_sem]
  intro d r b F_ h F V_;have N_:=Y<|HP _ _ d r b F_ h F;obtain⟨E_,-⟩:=rF h (k:=Z w.1) (by simp<;>omega) (ar _ O);obtain⟨f1,-⟩:=rF h (k:=c) (by simp<;>omega) (J_ _ O);obtain⟨f2,e2⟩:=rF h (k:=n) (by simp<;>omega) (J_ _ O);have kx:E b (A n 6)=S (Hl c f s):=G (f2 6) (R_ _ _);have a8:∀v,E (Se b (A n 2) v) (A n 6)=S (Hl c f s):=λv=>G (cJ<|by intro e;injection e with _ e;omega) kx;have ky:E b (A (Z w.1) 0)=S (H a):=G (E_ 0) SC;have kz:E b (A c a)=S (H VA):=G (f1 a) (U_ _ _);have k1:E b (A n 2)=S (X P i j):=G (f2 2) (Q_ _ _);have z1:b.frozen? (A n 2)=Sn:=G (e2 2) (af _ _);clear E_ f1 f2 e2 F_ h F V_;refine hK _ _ kP λig=>?_;clear hK;refine Xn 15 ?_;refine Xn 16 ?_;refine Xs 17 λK hK=>?_;go_simp;refine hK _ _ kP λig=>?_;clear hK;refine Yq ?_;go_wp2;go_ret;exact⟨R,S (A d 0),i+1,r,N_.o⟩
 skip
 go_simp;refine hK _ _ kP λig=>?_;clear hK
 try simp only[Act.put,xA,xB,xC,xD,xE,xF]
 refine Xs 4 λK hK=>?_;go_simp;refine hK _ _ kP λig=>?_;clear hK;refine Xs 14 λK hK=>?_;refine XC _ R (.tmp 115) (.tmp 124) 23 R Bt 2 i0 (H 0) 1 8 underlying23 aq a0 a1 a2 R vY (X P i j) i (C.map<|Si S6) SE (ac _ _) (A (Z w.1+1) 0) 1 1 [H VA] SE R ?_ (by intro ab W;simp at W;subst W;rfl) vY SD O SB (Z w.1+1+1) sP ?_
 .intro W_ ab o
  match W_,o with
  |0,o=>simp at o;subst o;simp[Addr.add,go_sem]
 intro d r b F_ h F V_;have N_:=Y<|HP _ _ d r b F_ h F;obtain⟨E_,-⟩:=rF h (k:=Z w.1) (by simp<;>omega) (ar _ O);obtain⟨f1,-⟩:=rF h (k:=c) (by simp<;>omega) (J_ _ O);obtain⟨f2,e2⟩:=rF h (k:=n) (by simp<;>omega) (J_ _ O);have kx:E b (A n 6)=S (Hl c f s):=G (f2 6) (R_ _ _);have a8:∀v,E (Se b (A n 2) v) (A n 6)=S (Hl c f s):=λv=>G (cJ<|by intro e;injection e with _ e;omega) kx;have ky:E b (A (Z w.1) 0)=S (H a):=G (E_ 0) SC;have kz:E b (A c a)=S (H VA):=G (f1 a) (U_ _ _);have k1:E b (A n 2)=S (X P i j):=G (f2 2) (Q_ _ _);have z1:b.frozen? (A n 2)=Sn:=G (e2 2) (af _ _);clear E_ f1 f2 e2 F_ h F V_;refine hK _ _ kP λig=>?_;clear hK;refine Xn 15 ?_;refine Xn 16 ?_;refine Xs 17 λK hK=>?_;go_simp;refine hK _ _ kP λig=>?_;clear hK;refine Yq ?_;go_wp2;go_ret;exact⟨R,S (A d 0),i+1,r,N_.o⟩
theorem Vcr{value:I}{r s F K C:N}{V:I}{W:Uy}{M J_:N}{R_ b d:N}{Q_ K_:Wc}{Bt:N}(h:Q (Vai w w n p m k B g P i j t T value c r s F K C z V W M J_ Bt l L Q_ K_))(H_:Q (r=J l))(hh:Q (J L=32))(hA:b<r)(aq:d<r)(hR:n<Bt)(ar:c<Bt)(ab:B<Bt)(aa:n≠c)(F_:n≠B)(Z_:Bt<=Z w.1):
 Sk prog 80 #[Hn n,.iface 256 (Sa #[H 9,H R_,H b,H d])] w
  λf e=>f=Rt (H 0)/\Vai w e n p m k B g P i j t T value c r s F K C z V W M J_ Bt l (VaF L (Vc4 l b%32) (Vc4 l d)) Q_ K_:=by
 have q:=λo_=>Xb (dC (Z w.1) w) o_;have c6:=λx=>G ((q x).cell (p:=A n 6) (by show n<_;omega)) h.2.1.7;have n1:Z w.1≠n:=O;have n2:Z w.1≠c:=O;have n3:n≠Z w.1:=O;have n4:c≠Z w.1:=O;have n5:c≠n:=λf=>aa f.symm;have n6:B≠n:=λf=>F_ f.symm;have n7:B≠Z w.1:=O;have ad:=h.2.2.1.4;have az:B≠c:=λf=>ad f.symm;have y:b<J l:=by have:=H_.o;omega
 have X_:=h.2.2.1.1.2 b y;obtain⟨a,u⟩:∃a:N,l[b]%32=a:=bX<|mR l[b] (b:=32) vY;have a0:a<32:=O;have o:a<J L:=by have:=hh.o;omega
 have a1:(0:I)<=a:=O;have a2:(a:I)<32:=O;have S_:=h.2.2.1.2.2 a o;have W_:=h.2.2.1.2.frozen a;have ac:Vc4 L (Vc4 l b%32)=L[a]:=by rw[Vax y,u,Vax o]
 have D_:d<J l:=by have:=H_.o;omega
 have Y_:=h.2.2.1.1.2 d D_;have E_:VaF L (Vc4 l b%32) (Vc4 l d)=L.set a l[d]:=by rw[Vax y,u,Vax D_];simp[VaF]
 rw[E_];have U_:=λx=>Y<|(((h.next Z_ hR<|q x).setH ab F_ o l[d])).drew.drew;have V_:=Y u;clear u ac E_;generalize l[b]=VA at*;generalize l[d]=VB at*;generalize L[a]=VH at*;have aj:=λx=>G ((q x).cell (p:=A c b) (by show c<_;omega)) X_;have al:=λx=>G ((q x).cell (p:=A c d) (by show c<_;omega)) Y_;have ao:=λx=>G ((q x).cell (p:=A B a) (by show B<_;omega)) S_;have ap:=λx=>G ((q x).frozen (p:=A B a) (by show B<_;omega)) W_;have c1:=λx=>G ((q x).cell (p:=A n 1) (by show n<_;omega)) h.2.1.2;have af:=λxT v w=>VaG underlying256 xT v w;have NC:=λxT v w=>Vaz (t:=256) underlying253 Vdv vY xT v w;have NA:=λxT v w=>Vaz (t:=256) underlying255 Vdu vY xT v w
 go_in
 go_wp2
 go_region_held3 (λe=>E e (A n 6)=S (Hl c r s)/\E e (A n 1)=S (Hl B 32 g)/\E e (A (Z w.1) 2)=S (H b)/\E e (A c b)=S (H VA)) (go_keep) (first|(go_at_call 150;refine YU Va8 ?_;rintro w1 rfl;rw[Xw V_]))
 go_wp2
 go_region_held3 (λe=>E e (A n 6)=S (Hl c r s)/\E e (A (Z w.1) 3)=S (H d)/\E e (A c d)=S (H VB)) (go_keep) (fail)
 go_wp2;go_ret;exact⟨R,(U_ _).o⟩
theorem VcT{value:I}{f r C F M:N}{V:I}{W:Uy}{N_ M_:N}{o d a:N}{R_ K:Wc}{Bt:N}(h:Q (Vai w w n p m k B g P i j t T value c f r C F M z V W N_ M_ Bt l L R_ K))(v:Q (f=J l))(hD:o<f)(hA:d<f)(ao:a<f)(s:Vc4 l (a:I)≠0)(Z_:n<Bt)(ab:c<Bt)(ap:B<Bt)(I_:n≠c)(aa:n≠B)(Y_:Bt<=Z w.1):
 Sk prog 80 #[Hn n,.iface 255 (Sa #[H 6,H o,H d,H a])] w
  λe b=>e=Rt (H 0)/\Vai w b n p m k B g P i j t T value c f r C F M z V W N_ M_ Bt (l.set o<|VcZ 6 (Vc4 l d) (Vc4 l a)) L R_ K:=by
 have q:=λo_=>Xb (dC (Z w.1) w) o_;have c6:=λx=>G ((q x).cell (p:=A n 6) (by show n<_;omega)) h.2.1.7;have n1:Z w.1≠n:=O;have n2:Z w.1≠c:=O;have n3:n≠Z w.1:=O;have n4:c≠Z w.1:=O;have n5:c≠n:=λe=>I_ e.symm;have n6:B≠n:=λe=>aa e.symm;have n7:B≠Z w.1:=O;have ac:=h.2.2.1.4;have aq:B≠c:=λe=>ac e.symm;have H_:o<J l:=by have:=v.o;omega
 have F_:d<J l:=by have:=v.o;omega
 have u:a<J l:=by have:=v.o;omega
 rw[Vax F_,Vax u];have V_:=h.2.2.1.1.2 o H_;have W_:=h.2.2.1.1.frozen o;have S_:=h.2.2.1.1.2 d F_;have U_:=h.2.2.1.1.2 a u;have C_:=λx=>Y<|(((h.next Y_ Z_<|q x).setV ab I_ H_ (VcZ 6 l[d] l[a]))).drew.drew;rw[Vax u]at s;have ar:(l[a]==0)=Sn:=by simp[s]
 have A_:=Y λX_=>VbB 6 l[d] l[a] X_ O O λ_=>s;clear s;generalize VcZ 6 l[d] l[a]=ad at*;generalize l[o]=VD at*;generalize l[d]=VA at*;generalize l[a]=VB at*;have cd:=λx=>G ((q x).cell (p:=A c o) (by show c<_;omega)) V_;have cz:=λx=>G ((q x).frozen (p:=A c o) (by show c<_;omega)) W_;have aj:=λx=>G ((q x).cell (p:=A c d) (by show c<_;omega)) S_;have al:=λx=>G ((q x).cell (p:=A c a) (by show c<_;omega)) U_;have af:=λxT y w=>VaG underlying255 xT y w;have NC:=λxT y w=>Vaz (t:=255) underlying253 Vdv vY xT y w
 go_in
 go_wp2
 go_region_held3 (λb=>E b (A (Z w.1) 0)=S (H 6)/\E b (A n 6)=S (Hl c f r)/\E b (A (Z w.1) 3)=S (H a)/\E b (A c a)=S (H VB)) (go_keep) (fail)
 go_wp2;refine Y7 (λb=>E b (A n 6)=S (Hl c f r)/\E b (A (Z w.1) 0)=S (H 6)/\E b (A (Z w.1) 1)=S (H o)/\E b (A (Z w.1) 2)=S (H d)/\E b (A (Z w.1) 3)=S (H a)) λig=>?_;refine Xn 0 ?_;(iterate 14 refine Rm ?_);refine Xn 16 ?_;(iterate 6 refine Rm ?_);refine eS (rs:=[15,23]) vZ sP ?_;refine(bQ R (λK hK=>?_) (bQ R (λK hK=>?_) dY))
 .skip
  go_simp;refine hK _ _ kP λig=>?_;clear hK
  try simp only[Act.put,xA,xB,xC,xD,xE,xF]
  refine Xs 23 λK hK=>?_;go_simp;refine hK _ _ kP λig=>?_;clear hK;refine Xs 24 λK hK=>?_;go_simp;refine YU (A_.o _) ?_;rintro w1 rfl;go_wp2_with fail
  refine hK _ _ kP λig=>?_;clear hK;refine Xn 25 ?_;refine Xs 26 λK hK=>?_;go_simp;refine hK _ _ kP λig=>?_;clear hK;refine Yq ?_;go_wp2;go_ret;exact⟨R,(C_ _).o⟩
 go_simp;refine hK _ _ kP λig=>?_;clear hK
 try simp only[Act.put,xA,xB,xC,xD,xE,xF]
 refine Xs 15 λK hK=>?_;go_simp;refine hK _ _ kP λig=>?_;clear hK;refine Xs 24 λK hK=>?_;go_simp;refine YU (A_.o _) ?_;rintro w1 rfl;go_wp2_with fail
 refine hK _ _ kP λig=>?_;clear hK;refine Xn 25 ?_;refine Xs 26 λK hK=>?_;go_simp;refine hK _ _ kP λig=>?_;clear hK;refine Yq ?_;go_wp2;go_ret;exact⟨R,(C_ _).o⟩
theorem Vci{value:I}{d q o r s:N}{F:I}{M:Uy}{V C:N}{I_ U_ a:N}{W K:Wc}{Bt:N}(f:Q (Vai w w n p m k B g P i j t T value c d q o r s z F M V C Bt l L W K))(R_:Q (d=J l))(X_:a<d)(y:Vc4 l (a:I)=0)(N_:n<Bt)(aa:c<Bt)(Z_:B<Bt)(Q_:n≠c)(O_:n≠B)(M_:Bt<=Z w.1):
 Sk prog 80 #[Hn n,.iface 255 (Sa #[H 6,H I_,H U_,H a])] w
  λe b=>e=Rt (H 2)/\Vai w b n p m k B g P i j t T value c d q o r s z F M V C Bt l L W K:=by
 have h:=λo_=>Xb (dC (Z w.1) w) o_;have V_:=λx=>G ((h x).cell (p:=A n 6) (by show n<_;omega)) f.2.1.7;have n1:Z w.1≠n:=O;have n2:Z w.1≠c:=O;have n3:n≠Z w.1:=O;have n4:c≠Z w.1:=O;have n5:c≠n:=λe=>Q_ e.symm;have n6:B≠n:=λe=>O_ e.symm;have n7:B≠Z w.1:=O;have S_:=f.2.2.1.4;have ab:B≠c:=λe=>S_ e.symm;have u:a<J l:=by have:=R_.o;omega
 have r_:=f.2.2.1.1.2 a u;rw[Vax u]at y;rw[y]at r_;have J_:=λx=>Y<|(f.next M_ N_<|h x).drew;have W_:=λx=>G ((h x).cell (p:=A c a) (by show c<_;omega)) r_;have Y_:=λxT v w=>VaG underlying255 xT v w;have NC:=λxT v w=>Vaz (t:=255) underlying253 Vdv vY xT v w
 go_in
 go_wp2
 go_region_held3 (λb=>E b (A (Z w.1) 0)=S (H 6)/\E b (A n 6)=S (Hl c d q)/\E b (A (Z w.1) 3)=S (H a)/\E b (A c a)=S (H 0)) (go_keep) (fail)
 go_wp2;go_ret;exact⟨R,(J_ _).o⟩
theorem VcQ{x:Yg}{args:Wc}{value:I}{K_ Y_ U_ aa X_:N}{pc:I}{ka:Uy}{kn kc:N}{M_ V_:Wc}{Bt:N}(F:Q (Vai w w n p m k B g P i j t T value c K_ Y_ U_ aa X_ z pc ka kn kc Bt l L M_ V_))(M:Q (K_=J l))(hh:Q (J L=32))(ac:i<=1000000)(V:Yw K_ 10 x=So)(ab:¬(x.1=6/\Vc4 l x.b=0))(s:n<Bt)(C:c<Bt)(y:B<Bt)(v:n≠c)(u:n≠B)(r:Bt<=Z w.1):
 Sk prog 80 #[Hn n,Vdi args x] w
  λo_ q=>o_=Rt (H 0)/\∃S_ R_ O_,Vai w q n p m k B g S_ R_ O_ t T value c K_ Y_ U_ aa X_ z pc ka kn kc Bt (VaH x args l L) (VaI x l L) (VaT x l M_) V_:=by
 obtain⟨⟨o1,o2⟩,fd,W,Q_,fi⟩:=VaU V;obtain⟨a,Z_,xa,N_,b⟩:=x;dsimp only at*;have hc:a=1\/a=2\/((3<=a/\a<=7)/\a≠6)\/a=6\/a=8\/a=9\/a=10:=O;obtain rfl|rfl|⟨⟨c1,c2⟩,c6⟩|rfl|rfl|rfl|rfl:=hc
 .obtain⟨e,d1⟩:=fd vY;obtain⟨o,rfl⟩:=bX e;have e1:Vdi args ⟨1,o,xa,N_,b⟩=.iface 253 (Sa #[H o,H b]):=by simp[Vdi]
  rw[e1];refine YU (VbD F M O s C y v u r) λq h=>?_;exact⟨R,P,i,j,by simpa [VaH,VaI,VaT,VaF]using h⟩
 .obtain⟨e,d1⟩:=fd vY;obtain⟨o,rfl⟩:=bX e;have e1:Vdi args ⟨2,o,xa,N_,b⟩=.iface 253 (Sa #[H o,H (Vbq args b)]):=by simp[Vdi]
  rw[e1];refine YU (VbD F M O s C y v u r) λq h=>?_;exact⟨R,P,i,j,by simpa [VaH,VaI,VaT,VaF]using h⟩
 .obtain⟨e,d1⟩:=fd<|by simp[dB];omega
  obtain⟨d,J_⟩:=W (by simp[aB];omega);obtain⟨G_,W_⟩:=Q_ (by simp[bB];omega);obtain⟨o,rfl⟩:=bX e;obtain⟨K,rfl⟩:=bX d;obtain⟨Bx,rfl⟩:=bX G_;have f:Vdi args ⟨a,o,K,Bx,b⟩=.iface 255 (Sa #[H a,H o,H K,H Bx]):=by unfold Vdi;rw[aM SG,aM SG,aM SG,aM<|by dsimp only;omega]
  rw[f];have e1:VaH ⟨a,o,K,Bx,b⟩ args l L=l.set o (VcZ a (Vc4 l K) (Vc4 l Bx)):=by unfold VaH;simp only;rw[aM O,aM O,aM O,aM O,aM O];simp[VaF]
  have e2:VaI ⟨a,o,K,Bx,b⟩ l L=L:=aM SG;have e3:VaT ⟨a,o,K,Bx,b⟩ l M_=M_:=aM SG;rw[e1,e2,e3];refine YU (Vcv F M O O O c1 c2 c6 s C y v u r) λq h=>?_;exact⟨R,P,i,j,h⟩
 .obtain⟨e,d1⟩:=fd vY;obtain⟨d,J_⟩:=W vY;obtain⟨G_,W_⟩:=Q_ vY;obtain⟨o,rfl⟩:=bX e;obtain⟨K,rfl⟩:=bX d;obtain⟨Bx,rfl⟩:=bX G_;have f:Vdi args ⟨6,o,K,Bx,b⟩=.iface 255 (Sa #[H 6,H o,H K,H Bx]):=by simp[Vdi]
  rw[f];refine YU (VcT F M O O O (λh=>ab ⟨R,h⟩) s C y v u r) λq h=>?_;exact⟨R,P,i,j,by simpa [VaH,VaI,VaT,VaF]using h⟩
 .obtain⟨e,d1⟩:=fd vY
  obtain⟨d,J_⟩:=W vY;obtain⟨o,rfl⟩:=bX e;obtain⟨K,rfl⟩:=bX d;have ad:N_=0:=by simp only[Yw,bY]at V;have:=V.1.2;simpa [Tp,bB]using this
  subst ad;have f:Vdi args ⟨8,o,K,0,b⟩=.iface 256 (Sa #[H 8,H o,H K,H (0:N)]):=by simp[Vdi]
  rw[f];refine YU (Vcn F M hh O O s C y v u r) λq h=>?_;exact⟨R,P,i,j,by simpa [VaH,VaI,VaT,VaF]using h⟩
 .obtain⟨d,J_⟩:=W vY
  obtain⟨G_,W_⟩:=Q_ vY;obtain⟨K,rfl⟩:=bX d;obtain⟨Bx,rfl⟩:=bX G_;have af:Z_=0:=by simp only[Yw,bY]at V;have:=V.1.1.1.2;simpa [Tp,dB]using this
  subst af;have f:Vdi args ⟨9,0,K,Bx,b⟩=.iface 256 (Sa #[H 9,H (0:N),H K,H Bx]):=by simp[Vdi]
  rw[f];refine YU (Vcr F M hh O O s C y v u r) λq h=>?_;exact⟨R,P,i,j,by simpa [VaH,VaI,VaT]using h⟩
 obtain⟨d,J_⟩:=W vY;obtain⟨K,rfl⟩:=bX d;have f:Vdi args ⟨10,Z_,K,N_,b⟩=.iface 259 (Sa #[H K]):=by simp[Vdi]
 rw[f];refine YU (VcK F M O ac s C y v u r) λq⟨S_,R_,O_,h⟩=>?_;exact⟨R,S_,R_,O_,by simpa [VaH,VaI,VaT]using h⟩
theorem Vca{x:Yg}{args:Wc}{value:I}{a d s o b:N}{q:I}{e:Uy}{h f:N}{r K:Wc}{Bt:N}(y:Q (Vai w w n p m k B g P i j t T value c a d s o b z q e h f Bt l L r K))(C:Q (a=J l))(W:Yw a 10 x=So)(F:x.1=6)(M:Vc4 l x.b=0)(V:n<Bt)(Q_:c<Bt)(O_:B<Bt)(N_:n≠c)(M_:n≠B)(I_:Bt<=Z w.1):
 Sk prog 80 #[Hn n,Vdi args x] w
  λy_ X_=>y_=Rt (H 2)/\Vai w X_ n p m k B g P i j t T value c a d s o b z q e h f Bt l L r K:=by
 obtain⟨⟨o1,o2⟩,fd,E_,F_,fi⟩:=VaU W;obtain⟨op,aa,xa,xb,V_⟩:=x;dsimp only at*;subst F;obtain⟨v_,d1⟩:=fd vY;obtain⟨s_,Y_⟩:=E_ vY;obtain⟨u_,Z_⟩:=F_ vY;obtain⟨u,rfl⟩:=bX v_;obtain⟨v,rfl⟩:=bX s_;obtain⟨Bx,rfl⟩:=bX u_;have C_:Vdi args ⟨6,u,v,Bx,V_⟩=.iface 255 (Sa #[H 6,H u,H v,H Bx]):=by simp[Vdi]
 rw[C_];exact Vci y C O M V Q_ O_ N_ M_ I_
theorem VcU{v1 v2 v4:I}{oa:Uy}(h:I->Vy)(d:Q (∀x,Sk prog 151 #[Sj (S ⟨n,0,U⟩),Sa #[Si S6 t,Si S6 v1,Si S6 v2,X p m k,Si S6 v4,X oa B g]] (D w x) λe a=>∃c,e=Rt (Si S6 c)/\h c a)):
 Sk prog 80 #[Sj (S ⟨n,0,U⟩),.iface 154 (Sa #[Si S6 t,Si S6 v1,Si S6 v2,X p m k,Si S6 v4,X oa B g])] w
  λe a=>∃c,e=Rt (Si S6 c)/\h c a:=by
 have o:=λxT v w=>VaG underlying154 xT v w;have NC:=λxT v w=>Vaz (t:=154) underlying253 Vdv vY xT v w;have NA:=λxT v w=>Vaz (t:=154) underlying255 Vdu vY xT v w;have NH:=λxT v w=>Vaz (t:=154) underlying256 Vdw vY xT v w;have NO:=λxT v w=>Vaz (t:=154) underlying259 Vdx vY xT v w;have NP:=λxT v w=>Vaz (t:=154) underlying251 Vdy vY xT v w
 go_in
 go_wp2_with (go_at_call 151;refine(d.o _).mono ?_;rintro e f⟨c,rfl,hq⟩;have b:=Y hq;clear hq)
 go_ret;exact⟨c,R,b.o⟩
theorem Vc9:(prog.info? 146).map (λi=>(i.8,i.3,i.4))=S (S<|Hq,1,24):=vZ
theorem Vda:(prog.info? 148).map (λi=>(i.8,i.3,i.4))=S (S .nilIface,1,16):=vZ
theorem VbO{args:Wc}{x:Yg}:∃T V,Vdi args x=.iface T V:=by
 unfold Vdi;split;·exact⟨_,_,R⟩
 split;·exact⟨_,_,R⟩
 split;·exact⟨_,_,R⟩
 split;·exact⟨_,_,R⟩
 exact⟨_,_,R⟩
theorem Vcm{v1 v2 v3 v4:Uj}(h:Sw (Z w.1+1) (D w<|Sc #[a,v1,v2,v3,v4] n).drew v):E v ⟨Z w.1,0,U⟩=S a/\E v ⟨Z w.1,1,U⟩=S v1/\E v ⟨Z w.1,2,U⟩=S v2/\E v ⟨Z w.1,3,U⟩=S v3/\E v ⟨Z w.1,4,U⟩=S v4:=by have k:=h.5 (Z w.1) O;refine⟨G (Xc k) ?_,G (Xc k) ?_,G (Xc k) ?_,G (Xc k) ?_,G (Xc k) ?_⟩<;>simp[go_sem]
theorem VcN(w:Ub)(o:Obj)(t:N):Sx (D (D w o) (Sc #[] t)) (Z w.1+1) t 1 (X (S ⟨Z w.1+1,0,U⟩) 0 0) 0 []:=by have h:=eI (base:=Z w.1+1) (e:=t) (size:=1) (D w o) #[] 0 sP sP R;rw[aO]at h;exact h
def VaW(w:Ub)(e:N)(a:Uy)(c b:N)(d:Uj)(C:N->Option Uj):Prop:=E w (A e 0)=S (X a c b)/\E w (A e 7)=S d/\(∀o,w.frozen? (A e o)=Sn)/\∀o,o≠7->E w (A e o)=C o
theorem VaW.keep{w1:Ub}{C:N->Option Uj}(h:VaW w n p m k a C)(b:w1.1[n]?=w.1[n]?):VaW w1 n p m k a C :=
 ⟨G (Xc b) h.1,G (Xc b) h.2.1,λo=>G (bJ b) (h.2.2.1 o),λo c=>G (Xc b) (h.2.2.2 o c)⟩
theorem VaW.set7{C:N->Option Uj}(h:VaW w n p m k a C)(v:Uj):VaW (Se w ⟨n,7,U⟩ v) n p m k v C:=by
 obtain⟨b,c,f,d⟩:=h;refine⟨?_,fQ _ _ _ c,λo=>G (eX _ _ _ _) (f o),λo h=>?_⟩;·exact G (cJ<|by intro e;injection e with _ e;omega) b
 exact G (cJ<|by intro e;injection e with _ e;exact h e.symm) (d o h)
def VaV(w:Ub)(L B:N)(a:Wo)(b:Ub->N->N->Uj->Prop)(v:Uj):Prop :=
 ∃g c,v=X (S ⟨g,0,U⟩) (J a+1) c/\(L<=g/\g<B)/\(∀j (h:j<J a),E w ⟨g,j,U⟩=S a[j]) /\
  ∃val,E w ⟨g,J a,U⟩=S (.iface 154 val)/\b w L B val
structure VbZ(E_:Ub->N->N->Uj->Prop):Prop where
 keep:∀{w w' L B v},E_ w L B v->YA L B w w'->E_ w' L B v
 mono:∀{w L B L' B' v},E_ w L B v->L'<=L->B<=B'->E_ w L' B' v
theorem VaV.keepS{w':Ub}{r:Ub->N->N->Uj->Prop}(j:VbZ r)(h:VaV w n m y r a)(k:YA n m w w'):VaV w' n m y r a:=by obtain⟨g,c,e,b,d,val,f,i⟩:=h;have q:=k g b.1 b.2;exact⟨g,c,e,b,λo l=>G (Xc q) (d o l),val,G (Xc q) f,j.1 i k⟩
theorem VaV.of_own{base L:N}{nv:Wo}{E_:Ub->N->N->Uj->Prop}{ln:N}{val:Uj}(d:ln=J nv)(f:L<=base)(h:Sx w base 148 1 (Hl n (ln+1) m) (ln+1) (nv++[.iface 154 val]))(c:E_ w L (Z w.1) val):
 VaV w L (Z w.1) nv E_ (Hl n (ln+1) m):=by
 subst d;have e:=h.lt n R;have a:=h.cells (g:=n) R;refine⟨n,m,R,O,λj b=>?_,val,?_,c⟩
 .have:=a j nv[j] (by rw[dL b];simp[b]);rw[Hb,aV]at this;exact this
 have:=a (J nv) (.iface 154 val) (by rw[eV<|aA];simp);rw[Hb,aV]at this;exact this
structure Vbf(w:Ub)(R_:N)(aa:Uy)(na ca:N)(C:N->Option Uj)(nv:N->Wo)(E_:N->Ub->N->N->Uj->Prop)(k:N)(Us:Wo)(va:Uy)(vc:N)(wr:Ub):Prop where
 kb:Kb (Z w.1) R_ R_ w wr
 box:VaW wr R_ aa na ca (X va k vc) C
 own:Sx wr (Z w.1) 146 1 (X va k vc) k Us
 rows:∀i (h:i<J Us),∃L B,Z w.1<=L/\B<=Z wr.1/\(∀g,(X va k vc).ownBlock=S g->¬(L<=g/\g<B))/\VaV wr L B (nv i) (E_ i) Us[i]
theorem Vbf.start{C:N->Option Uj}{b:N->Wo}{c:N->Ub->N->N->Uj->Prop}(h:VaW w n p m k Hq C):Vbf w n p m k C b c 0 [] U 0 w :=
 ⟨Kb.refl _ _ _ _,h,dA,λi a=>Sz a sP⟩
theorem Vbf.step{w3:Ub}{C:N->Option Uj}{x:N->Wo}{L:N->Ub->N->N->Uj->Prop}{Us:Wo}(y:∀d,VbZ<|L d)(S_:n<Z w.1)(h:Vbf w n p m k C x L B Us P g v)(c:Sw (Z v.1) v w3)(M:VaV w3 (Z v.1) (Z w3.1) (x B) (L B) a){F:Obj}(t:Sx u (Z w.1) 146 1 (X (S ⟨i,0,U⟩) (B+1) j) (B+1) (Us++[a]))(q:(D w3 F).grownBy u (X P B g).ownBlock)(z:(X P B g).ownBlock=S i\/i=Z w3.1+1):
 Vbf w n p m k C x L (B+1) (Us++[a]) (S ⟨i,0,U⟩) j (Se u ⟨n,7,U⟩ (X (S ⟨i,0,U⟩) (B+1) j)):=by
 have K:=h.1.4;have T_:=c.4;have W:=q.4;rw[aO]at W;have r:=λs e=>h.3.lt s e;have U_:J Us=B:=by have:=h.3.1;omega
 have f3:∀b,b<Z w3.1->S b≠(X P B g).ownBlock->u.1[b]?=w3.1[b]?:=λb l o=>G (q.5 b (by rw[aO];omega) o) ((Xb (dC (Z w3.1) w3) F).5 b l);have fR:∀b,b≠n->(Se u (A n 7) (Hl i (B+1) j)).1[b]?=u.1[b]?:=λb c=>cY c;have N_:S n≠(X P B g).ownBlock:=λe=>by have:=(r n e.symm).1;omega
 have Q_:i<Z u.1:=(t.lt i R).2;have R_:Z w.1<=i:=(t.lt i R).1;refine⟨?_,?_,Zl t λb e=>fR b (by injection e with e;dsimp only at e;omega),λd I_=>?_⟩;·refine(h.1.trans ⟨G q.1 c.1,G q.2 c.2,G q.3 c.3,O,λb l _ _=>G (f3 b O λe=>by have:=(r b e.symm).1;omega) (c.5 b O)⟩).set (bC R) _
 .exact(h.2.keep<|G (f3 n O N_) (c.5 n O)).set7 _
 by_cases T:d<J Us
 .obtain⟨L_,G_,q1,q2,V,O_⟩:=h.4 d T;rw[fA T];refine⟨L_,G_,q1,SF,λs e=>?_,O_.keepS (y d) λb l o=>G (fR b O) (G (f3 b O λe=>V b e.symm ⟨l,o⟩) (c.5 b O))⟩;injection e with e;dsimp only at e;subst e;obtain f|f:=z;·exact V _ f
  omega
 have J_:d=B:=by rw[aQ,nR]at I_;omega
 subst J_;have e1:(Us++[a])[d]=a:=by rw[fN O];simp
 rw[e1];refine⟨Z v.1,Z w3.1,K,SF,λs e=>?_,M.keepS (y d) λb l o=>G (fR b O) (f3 b o λe=>by have:=(r b e.symm).2;omega)⟩;injection e with e;dsimp only at e;subst e;obtain f|f:=z;·have:=(r _ f).2;omega
 omega
def Vbx(w:Ub)(c B l n:N)(b:N->Wo)(o:N->Ub->N->N->Uj->Prop)(a e:Wk)(d:Vu):Prop :=
 ∀i,i<n->E w (A l i)=S (Hl (a i) (J (b i)+1) (e i))/\(c<=a i/\a i<B)/\(∀j (h:j<J (b i)),E w (A (a i) j)=S (b i)[j])/\E w (A (a i) (J (b i)))=S (.iface 154 (d i))/\o i w c B (d i)
theorem Vbx.keep{w':Ub}{d:N->Wo}{x:N->Ub->N->N->Uj->Prop}(p:∀i,VbZ<|x i)(e:Vbx w n m k B d x f F h)(c:n<=k/\k<m)(b:YA n m w w'):Vbx w' n m k B d x f F h:=λi r=>by obtain⟨g,a,j,l,o⟩:=e i r;have q:=b _ a.1 a.2;exact⟨G (Xc<|b k c.1 c.2) g,a,λt s=>G (Xc q) (j t s),G (Xc q) l,(p i).1 o b⟩
theorem Vbx.mono{lo' B':N}{a:N->Wo}{q:N->Ub->N->N->Uj->Prop}(e:∀i,VbZ<|q i)(b:Vbx w n m k B a q f F h)(c:lo'<=n)(d:m<=B'):Vbx w lo' B' k B a q f F h:=λi g=>by obtain⟨q1,q2,j,l,o⟩:=b i g;exact⟨q1,O,j,l,(e i).2 o c d⟩
theorem Vbf.table{wr:Ub}{C:N->Option Uj}{a:N->Wo}{L:N->Ub->N->N->Uj->Prop}{Us:Wo}(t:∀i,VbZ<|L i)(h:Vbf w n p m k C a L B Us P g wr)(M:0<B):
 ∃K o d T,P=S (A K 0)/\(Z w.1<=K/\K<Z wr.1)/\Vbx wr (Z w.1) (Z wr.1) K B a L o d T:=by
 obtain⟨K,W,e,u,v⟩:=h.3.form M;obtain⟨rfl,-,rfl⟩:=Z5 e;have K_:J Us=B:=by have:=h.3.1;omega
 have x:=h.3.cells (g:=K) R;have V:∀i,∃y:N×N×Uj,i<B->E wr (A K i)=S (Hl y.1 (J (a i)+1) y.2.1)/\(Z w.1<=y.1/\y.1<Z wr.1)/\(∀j (h:j<J (a i)),E wr (A y.1 j)=S (a i)[j])/\E wr (A y.1 (J (a i)))=S (.iface 154 y.2.2)/\L i wr (Z w.1) (Z wr.1) y.2.2:=λi=>by
  by_cases b:i<B
  .obtain⟨L_,F,q1,q2,-,l,c,e,J_,q,val,r,s⟩:=h.4 i O;refine⟨(l,c,val),λ_=>⟨?_,SG,q,r,(t i).2 s q1 q2⟩⟩;have:=x i Us[i] sP;rw[Hb,aV,e]at this;exact this
  exact⟨(0,0,.nilIface),λh=>Sz h b⟩
 obtain⟨f,z⟩:=Classical.skolem.1 V;exact⟨K,λi=>(f i).1,λi=>(f i).2.1,λi=>(f i).2.2,R,⟨u,v⟩,λi b=>z i b⟩
theorem set_at{b:Ub}(a:Zh)(i:N)(v:Uj)(h:b.1[n]?=S (Sc a m (0,0))):(Se b ⟨n,i,U⟩ v).1[n]?=S (Sc (a.setIfInBounds i v) m (0,0)):=by simp only[World.setCell,Array.getElem?_modify,h];simp
theorem Vdq:(prog.info? 2).map (·.3)=S 1:=vZ
theorem Vcf(h:J l<=n):((Rg n).map λi=>l.getD i 0).map (Si S6)=l.map (Si S6)++(List.replicate n<|H 0).drop (J l):=by
 apply iG;intro i;by_cases b:i<n
 .by_cases a:i<J l
  .rw[dL<|by simpa using a];simp[b,a]
  rw[eV SB,bK,jA,show J l+(i-J l)=i by omega];simp[b,a]
 rw[dK SB,dK<|by simp;omega]
theorem Vcg(a:Wc)(h:J a<=32):(Va5 a).map (Si S6)=a.map (Si S6)++(List.replicate 32<|H 0).drop (J a):=Vcf h
theorem VcI:(madeCells #[H 0] 32).1=List.replicate 32 (H 0):=vZ
theorem Vb3{P:Vy}(a:Ub)(h:∀W,W=a->P W):P a:=h a R
theorem VcL(h:w.1[n]?=S (Sc (madeCells #[H 0] m) k (0,0))):VaC w n (List.replicate m 0):=by
 refine⟨⟨_,_,h⟩,λi a=>?_⟩;have b:i<m:=by simpa using a
 simp only[World.cell?,h];simp[madeCells,b,Nat.mod_one]
def Vat:Zh:=#[Hq,Hq,Hq,H 0,H 0,H 0,Hq,Hq,H 0,H 0,Hq]
theorem VcY(w:Ub)(a b c d:Obj):(D (D (D (D w a) b) c) d).drew.1[Z w.1]?=S a/\(D (D (D (D w a) b) c) d).drew.1[Z w.1+1]?=S b/\(D (D (D (D w a) b) c) d).drew.1[Z w.1+1+1]?=S c/\(D (D (D (D w a) b) c) d).drew.1[Z w.1+1+1+1]?=S d/\Sw (Z w.1) w (D (D (D (D w a) b) c) d).drew:=by have j:=l9 w a;have f:=l9 (D w a) b;have g:=l9 (D (D w a) b) c;have h:=l9 (D (D (D w a) b) c) d;have k:=(Xb (dC _<|D w a) b).5 (Z w.1) sP;have i:=(Xb (dC _<|D (D w a) b) c);have e:=(Xb (dC _<|D (D (D w a) b) c) d);have e1:Z (D w a).1=Z w.1+1:=sP;have e2:Z (D (D w a) b).1=Z w.1+1+1:=sP;have e3:Z (D (D (D w a) b) c).1=Z w.1+1+1+1:=sP;rw[e1]at f;rw[e2]at g;rw[e3]at h;exact⟨G (e.5 _ O) (G (i.5 _ O) (G k j)),G (e.5 _ O) (G (i.5 _ O) f),G (e.5 _ O) g,h,(Xb (Xb (Xb (Xb Rf _) _) _) _).drew⟩
theorem Vcc(i:N)(d:w.1[B]?=S (Sc (madeCells #[H 0] 32) 2 (0,0)))(q:Xf w m k p l)(f:n=J l)(t:n<=32):
 ∃c,Sem.run prog (Builtin.copy_ #[23,23] 3 #[Hl B 32 32,X p n i]) w=.ok (goInt n) c/\(∀b,b≠B->c.1[b]?=w.1[b]?)/\(∀b g,b<=B->Sw b g w->Sw b g c)/\VaC c B (Va5 l):=by
 by_cases s:n=0
 .subst s;have x:l=[]:=iE f.symm;subst x;refine⟨w,run_copy_none w _ _ _ _ _ _ _ _ _ _ underlying23 Vdq R,λ_ _=>R,λ_ _ _ h=>h,?_⟩;have h:=VcL d;have e:List.replicate 32 (0:I)=Va5 []:=vY;rw[e]at h;exact h
 have y:0<J l:=O;obtain⟨b,o,rfl,⟨_,F⟩,-⟩:=q 0 y;have h:=run_copy_row (P:=prog) w 23 23 3 2 B 0 32 32 (A b o) n i (madeCells #[H 0] 32) 2 (l.map<|Si S6) underlying23 Vdq d (by rw[bK,<-f];exact(jZ t).symm) ?_ ?_ ?_
 .rw[bK,<-f]at h;refine⟨_,h,λC hq=>setRow_other _ _ _ _ hq,λC g hq u=>below_setRow u hq _,⟨_,_,setRow_heap _ _ _ _ _ _ d⟩,λM z=>?_⟩;rw[cell_setRow_same _ _ _ _ _ _ _ d,VcI];simp only[lK,dR,aV];rw[f,<-Vcg l O];simp[z]
 .intro j K a;have r:j<J l:=by have:=(cV.1 a).1;simpa using this
  rw[dX,aC r]at a;injection a with a;subst a;obtain⟨P,T,e,⟨_,V⟩,v⟩:=q j r;injection e with e;injection e with e1 e2;subst e1 e2;rw[show((A b o):Addr).add j=(A b (o+j))from by unfold Addr.add;split<;>simp_all];exact v
 .rw[bK,nA];simp;omega
 intro K L;obtain⟨W,_,rfl⟩:=aY.1 L;rfl
def Vam(a:Uy)(f b d:N)(c:I)(e m:N):Zh:=#[X a f b,Hl d 32 32,Hq,H c,H 0,H 0,Hl e m m,Hq,H 0,H 0,Hq]
structure Van(w W:Ub)(R_ gh gv:N)(aa:Uy)(na ca:N)(fuel:I)(m:N):Prop where
 k8:W.1[Z w.1]?=S (Sc Vat 67 (0,0))
 kR:W.1[R_]?=S (Sc (Vam aa na ca gh fuel gv m) 67 (0,0))
 kh:W.1[gh]?=S (Sc (madeCells #[Si S6 0] 32) 2 (0,0))
 kv:W.1[gv]?=S (Sc (madeCells #[Si S6 0] m) 2 (0,0))
 hb:Sw (Z w.1) w W
 d:(Z w.1<R_/\Z w.1<gh/\Z w.1<gv)/\R_≠gh/\gv≠gh
theorem Vcq(e:Uy)(h f:N)(x:N)(g:I)(d:N)(W:Q (Xf w m k p l))(P:Q (n=J l))(L:n<=32)(U_:d<=3000)(M_:k<=Z w.1):
 Sk prog 35 #[X e h f,X p n x,H g,H d] w
  λJ_ v=>∃a b,J_=Rt (Sa #[X e h f,Hl a 32 32,Hq,H g,H 0,H 0,Hl b d d,Hq,H 0,H 0,Hq])/\Sw (Z w.1) w v/\Z w.1<=a/\Z w.1<=b/\a≠b/\VaC v a (Va5 l)/\VaC v b (List.replicate d 0):=by
 have O_:=fM (P:=prog) 23 2 (H 0) 8 underlying23 RH R S6 S6 32 O O;rw[show((32:N):I)=32 from R]at O_;have V_:=fM (P:=prog) 23 2 (H 0) 8 underlying23 RH R S6 S6 d O O
 go_in
 go_upto_region 1 with fail
 go_cut [9]from 10 to 16 λc_ S_=>∃c a b,c_=Hn c/\Q (Van w S_ c a b e h f g d)
 case first=>
  refine Y7 (λ_=>True) λig=>?_;refine Xn 0 ?_;refine Xn 2 ?_;refine Xn 3 ?_;refine eS (rs:=[1,4,6]) vZ sP ?_;refine(bQ R (λK hK=>?_) (bQ R (λK hK=>?_) (bQ R (λK hK=>?_) dY)))
  all_goals
   go_simp;refine hK _ _ kP λig=>?_;clear hK
   try simp only[Act.put,xA,xB,xC,xD,xE,xF]
  refine eS (rs:=[4,6]) vZ sP ?_;refine(bQ R (λK hK=>?_) (bQ R (λK hK=>?_) dY));rotate_left 2;refine eS (rs:=[1,6]) vZ sP ?_;refine(bQ R (λK hK=>?_) (bQ R (λK hK=>?_) dY));rotate_left 2;refine eS (rs:=[1,4]) vZ sP ?_;refine(bQ R (λK hK=>?_) (bQ R (λK hK=>?_) dY))
  all_goals
   go_simp;refine hK _ _ kP λig=>?_;clear hK
   try simp only[Act.put,xA,xB,xC,xD,xE,xF]
  refine Xs 4 λK hK=>?_;rotate_left;refine Xs 1 λK hK=>?_;rotate_left
  focus
   refine Xn 5 ?_;refine Xs 6 λK hK=>?_
  rotate_left;refine Xs 4 λK hK=>?_;rotate_left
  focus
   refine Xn 5 ?_;refine Xs 6 λK hK=>?_
  rotate_left;refine Xs 1 λK hK=>?_;rotate_left
  all_goals
   go_simp;refine hK _ _ kP λig=>?_;clear hK
  focus
   refine Xn 5 ?_;refine Xs 7 λK hK=>?_
  rotate_left
  focus
   refine Xn 5 ?_;refine Xs 7 λK hK=>?_
  rotate_left;refine Xs 7 λK hK=>?_;rotate_left
  focus
   refine Xn 5 ?_;refine Xs 7 λK hK=>?_
  rotate_left;refine Xs 7 λK hK=>?_;rotate_left
  focus
   refine Xn 5 ?_;refine Xs 7 λK hK=>?_
  all_goals
   go_simp;refine hK _ _ kP λig=>?_;clear hK;refine Yq ?_;go_wp2_with fail
   go_meet;exact⟨_,_,_,R,Y ⟨(VcY w _ _ _ _).1,(by first|exact(VcY w _ _ _ _).2.1|exact(VcY w _ _ _ _).2.2.1|exact(VcY w _ _ _ _).2.2.2.1),(by first|exact(VcY w _ _ _ _).2.1|exact(VcY w _ _ _ _).2.2.1|exact(VcY w _ _ _ _).2.2.2.1),(by first|exact(VcY w _ _ _ _).2.1|exact(VcY w _ _ _ _).2.2.1|exact(VcY w _ _ _ _).2.2.2.1),(VcY w _ _ _ _).2.2.2.2,O⟩⟩
 obtain⟨c,a,b,rfl,z⟩:=hcut;obtain⟨C,u,kh,M,s,y,d1,d2⟩:=z.o;obtain⟨r,T_,q,T,B⟩:=Vcc x kh (W.keep<|s.mono M_) P.o L;have G_:=Y<|T _ _ O s;have H_:=Y B;have I_:=Y<|(VcL M).keep (q _ d2);have V:=G (q c d1) u;have t:=G (q (Z w.1) O) C;have q1:E wc (A c 1)=S (Hl a 32 32):=by simp[World.cell?,u,Vam]
 have Q_:∀i,E r (A c i)=(Vam e h f a g b d)[i]?:=λi=>by simp[World.cell?,V]
 have F:∀i,E r (A (Z w.1) i)=Vat[i]?:=λi=>by simp[World.cell?,t]
 have rz:∀o,r.frozen? (A (Z w.1) o)=Sn:=λo=>by simp[World.frozen?,t]
 have j:=Y<|And.intro y d2;clear q T B u V C t kh M s y d1 d2 z;unfold Vam at Q_;unfold Vat at F;go_wp2;refine cC (v:=Sa (Vam e h f a g b d)) (by simp[JC,results35,go_sem,F,Vam]) R ⟨a,b,R,?_,by have:=j.o;omega,by have:=j.o;omega,by have:=j.o;omega,H_.keep ?_,I_.keep ?_⟩
 .iterate 11 refine qG ?_ (by exact aA) _
  exact G_.o
 all_goals
  have:=j.o
  iterate 11 rw[cY<|by dsimp only;omega]
section
section
variable{w W W1:Ub}{R_:N}{aa:Uy}{na ca gh ch:N}{ta:Uy}{nt ct:N}{fuel k0 value:I}{gv nv cv G_ n cn:N}{b pc:I}{ka:Uy}{kn kc Bt:N}{vals hp tr K:Wc}
theorem Vai.self(h:Vai w W R_ aa na ca gh ch ta nt ct fuel k0 value gv nv cv G_ n cn b pc ka kn kc Bt vals hp tr K):Vai W W R_ aa na ca gh ch ta nt ct fuel k0 value gv nv cv G_ n cn b pc ka kn kc Bt vals hp tr K:=⟨Vab.refl _ _ _ _ _,h.2⟩
theorem Vai.on{c:Ub}{o:Uy}{l e:N}{g r:I}{d m:I}{h:Uy}{j i:N}{q f p a:Wc}(s:Vai w W R_ aa na ca gh ch ta nt ct fuel k0 value gv nv cv G_ n cn b pc ka kn kc Bt vals hp tr K)(k:Vai W c R_ aa na ca gh ch o l e fuel g r gv nv cv G_ n cn d m h j i Bt q f p a):Vai w c R_ aa na ca gh ch o l e fuel g r gv nv cv G_ n cn d m h j i Bt q f p a:=⟨s.1.trans k.1,k.2⟩
theorem Vai.tick(h:Vai w W R_ aa na ca gh ch ta nt ct fuel k0 value gv nv cv G_ n cn b pc ka kn kc Bt vals hp tr K)(e:R_<Bt)(g:R_≠gv)(f:R_≠gh)(a c:I):Vai w ((Se (Se W ⟨R_,4,U⟩ (Si S6 a)) ⟨R_,9,U⟩ (Si S6 c)).drew.drew) R_ aa na ca gh ch ta nt ct fuel a value gv nv cv G_ n cn b c ka kn kc Bt vals hp tr K :=
 Vai.drew (Vai.drew ⟨(h.1.set (bC R) _).set (bC R) _,(h.2.1.set4 _).set9 _,h.2.2.keep λq _ d=>G (cY<|by show q≠R_;omega) (cY<|by show q≠R_;omega)⟩)
end
theorem Vab.low{B a r gv gh:N}{w d:Ub}(h:Vab B r gv gh w d)(g:a<=B):Vab a r gv gh w d:=⟨h.1,h.2,h.3,h.4,λi f b c e=>h.5 i O b c e⟩
theorem Vb5{w:Ub}{B a e s:N}{v:Uj}{n:N}{d:Wo}(h:Sx w B e s v n d)(k:a<=B):Sx w a e s v n d:=by
 obtain⟨c,h|⟨i,f,g,rfl,l,j⟩⟩:=h;·exact⟨c,bC h⟩
 exact⟨c,aZ ⟨i,f,g,R,O,j⟩⟩
theorem Vb4{w g c a:Ub}{R_:N}{aa:Uy}{na ca gh ch:N}{ta:Uy}{nt ct:N}{fuel k0 value:I}{gv nv cv G_ n cn:N}{b pc:I}{ka:Uy}{kn kc:N}{vals hp tr K:Wc}(h:Vai g c R_ aa na ca gh ch ta nt ct fuel k0 value gv nv cv G_ n cn b pc ka kn kc (Z w.1+1) vals hp tr K)(i:Sw (Z w.1) w g)(k:Z w.1+1<=Z c.1)(l:R_<Z w.1)(o:gv<Z w.1)(m:gh<Z w.1)(j:Sw (Z c.1) c a)(e v1 v2 v3 v4:Uj):
 Vai w (Se (Se (Se (Se (Se a ⟨Z w.1,0,U⟩ e) ⟨Z w.1,1,U⟩ v1) ⟨Z w.1,2,U⟩ v2) ⟨Z w.1,3,U⟩ v3) ⟨Z w.1,4,U⟩ v4) R_ aa na ca gh ch ta nt ct fuel k0 value gv nv cv G_ n cn b pc ka kn kc (Z w.1) vals hp tr K:=by
 have d:=h.next k O j;have f:∀q,q≠Z w.1->(Se (Se (Se (Se (Se a (A (Z w.1) 0) e) (A (Z w.1) 1) v1) (A (Z w.1) 2) v2) (A (Z w.1) 3) v3) (A (Z w.1) 4) v4).1[q]?=a.1[q]?:=λq hq=>by rw[cY hq,cY hq,cY hq,cY hq,cY hq]
 have mm:=d.2.2.keep (w1:=(Se (Se (Se (Se (Se a (A (Z w.1) 0) e) (A (Z w.1) 1) v1) (A (Z w.1) 2) v2) (A (Z w.1) 3) v3) (A (Z w.1) 4) v4)) λq _ hq=>f q O;refine⟨(((((Vab.trans (Vab.of_below i) (d.1.low<|gX)).set (aZ<|aZ (aZ<|aA)) _).set (aZ<|aZ (aZ<|aA)) _).set (aZ<|aZ (aZ<|aA)) _).set (aZ<|aZ (aZ<|aA)) _).set (aZ<|aZ (aZ<|aA)) _,d.2.1.keep<|f R_ O,⟨mm.1.1,mm.1.2,Vb5 mm.1.3<|gX,mm.1.4,mm.1.5,mm.1.6⟩,Vb5 mm.2<|gX,mm.3⟩
theorem VcB{q:Type}(vw:q->Vak)(o:q->Prop)(out:N->N->q->QO)(T:q->TypeId)(P:q->Uj)(j:Vy){fuel:N}(f:QO){R_:N}{aa:Uy}{na ca gh ch gv nv cv G_ n cn:N}(Bt:N)(s0:q){w:Ub}(h0:Q (VaL w R_ aa na ca gh ch U 0 0 fuel 0 0 gv nv cv G_ n cn (vw s0).b (vw s0).2 U 0 0/\VaC w gv (vw s0).3/\VaC w gh (vw s0).4/\(vw s0).5=[]))(a8:Q (o s0))(bb:Q (out fuel 0 s0=f))(hf:fuel<=60000)(bx:Q (∀k s,out 0 k s=⟨3,0,k,(vw s).5,(vw s).4⟩))(a5:Q (∀W W',Vab Bt R_ gv gh W W'->j W->j W'))(bv:Q (∀s W,o s->j W->∃F ln V,E W ⟨G_,(vw s).b,U⟩=S (X (S ⟨F,0,U⟩) ln V)/\(vw s).b<n/\(vw s).2<ln/\(vw s).2<=16777216/\E W ⟨F,(vw s).2,U⟩=S (.iface (T s) (P s))))(b3:Q (∀s (k:N) ta nt ct ka kn kc K W,o s->j W->Bt<=Z W.1->nt<=k->k<fuel->Vai W W R_ aa na ca gh ch ta nt ct fuel ((k:I)+1) 0 gv nv cv G_ n cn (vw s).b (((vw s).2:I)+1) ka kn kc Bt (vw s).3 (vw s).4 (vw s).5 K ->
  Sk prog 80 #[Sj (S ⟨R_,0,U⟩),.iface (T s) (P s)] W λv d=>∃c,v=Rt (Si S6 c)/\∃p h l x z y u,
   ((c≠0/\∃value L X_ ac S_ ab,Vai W d R_ aa na ca gh ch p h l fuel ((k:I)+1) value gv nv cv G_ n cn L X_ x z y Bt ac S_ ab u/\∀B,out (B+1) k s=⟨c,value,k+1,ab,S_⟩) \/
    (c=0/\∃a,o a/\h<=k+1/\Vai W d R_ aa na ca gh ch p h l fuel ((k:I)+1) 0 gv nv cv G_ n cn (vw a).b (vw a).2 x z y Bt (vw a).3 (vw a).4 (vw a).5 u/\∀B,out (B+1) k s=out B (k+1) a))))(O_:R_<Z w.1)(Q_:gv<Z w.1)(P_:gh<Z w.1)(br:R_≠gv)(bo:R_≠gh)(b5:gv≠gh)(hB:Bt=Z w.1+1)(a4:Q (∀b6,j<|D w b6)):
 Sk prog 37 #[Sj (S ⟨R_,0,U⟩)] w
  λv d=>∃ta nt ct,v=Rt (Sa #[Si S6 f.1,Si S6 f.2,Si S6 f.3,X ta nt ct,X (S ⟨gh,0,U⟩) 32 ch])/\∃ka kn kc b pc vals K,Vai w d R_ aa na ca gh ch ta nt ct fuel f.3 f.2 gv nv cv G_ n cn b pc ka kn kc (Z w.1) vals f.5 f.4 K:=by
 subst hB;have ar:Q (∀t,Vai (D w<|Sc #[H 0,H 0,H 0,Hq,Hq] t) (D w<|Sc #[H 0,H 0,H 0,Hq,Hq] t) R_ aa na ca gh ch U 0 0 fuel (0:N) 0 gv nv cv G_ n cn (vw s0).b (vw s0).2 U 0 0 (Z w.1+1) (vw s0).3 (vw s0).4 (vw s0).5 []):=Y (λt=>by obtain⟨h1,h2,h3,h4⟩:=h0.o;have M_:=Xb (dC (Z w.1) w) (Sc #[H 0,H 0,H 0,Hq,Hq] t);rw[h4];exact⟨Vab.refl _ _ _ _ _,h1.keep<|M_.5 R_ O_,⟨h2.keep<|M_.5 gv Q_,h3.keep<|M_.5 gh P_,dA,b5,by simp[Value.ownBlock],by simp[Value.ownBlock]⟩,dA,bC R⟩)
 have al:Q (∀t,Vaj (D w<|Sc #[H 0,H 0,H 0,Hq,Hq] t) (Z w.1)):=Y (λt=>by refine⟨⟨?_,?_,?_,?_,?_⟩,λo_=>?_⟩<;>simp[go_sem])
 have ad:Q (∀t,Sw (Z w.1) w<|D w (Sc #[H 0,H 0,H 0,Hq,Hq] t)):=Y λt=>Xb Rf _;have ap:Q (∀t,Z (D w<|Sc #[H 0,H 0,H 0,Hq,Hq] t).1=Z w.1+1):=Y λt=>sP
 go_in
 go_wp2;have aq:=Y (ar.o 25);have ao:=Y (al.o 25);have af:=Y (ad.o 25);have bi:=Y (ap.o 25);have az:=Y<|a4.o (Sc #[H 0,H 0,H 0,Hq,Hq] 25);generalize (D w (Sc #[H 0,H 0,H 0,Hq,Hq] 25))=w0 at*
 go_loopw [] (λwr=>∃(s:q)(k:N)(ta:Uy)(nt ct:N)(ka:Uy)(kn kc:N)(K:Wc),Q<|Vai w0 wr R_ aa na ca gh ch ta nt ct fuel k 0 gv nv cv G_ n cn (vw s).b (vw s).2 ka kn kc (Z w.1+1) (vw s).3 (vw s).4 (vw s).5 K/\o s/\j wr/\nt<=k/\k<=fuel/\out (fuel-k) k s=f) λwr=>fuel-(JB<|(E wr (A R_ 4)).getD Su).toNat
 .exact⟨s0,0,U,0,0,U,0,0,[],Y ⟨aq.o,a8.o,az.o,aA,aN,bb.o⟩⟩
 obtain⟨s,k,ta,nt,ct,ka,kn,kc,K,hinv⟩:=hrel;obtain⟨M,a7,bd,b4,b8,a9⟩:=hinv.o;have i:=M.2.1;have c3:=i.4;have c4:=i.5;have c7:=i.8;have c8:=i.9;have c9:=i.c9;have f4:=i.fz 4;have f9:=i.fz 9;have cb:=M.1.4;have r:=Y M;have a0:=Y bd;have aj:=Y a7;have I_:=Y a9;have ci:=bi.o;have a3:Z w.1+1<=Z wr.1:=O;have bp:R_<Z wr.1:=O;clear hinv M a7 bd a9 i;by_cases hk:k<fuel
 .obtain⟨F,ln,V,cG,cf,cc,cd,cN⟩:=bv.o s wr aj.o a0.o;have J_:=Y<|r.tick O br bo ((k:I)+1) (((vw s).2:I)+1);have a2:Z w.1+1<=Z ((Se (Se wr (A R_ 4) (H ((k:I)+1))) (A R_ 9) (H (((vw s).2:I)+1))).drew.drew).1:=by show Z w.1+1<=Z (Se (Se wr (A R_ 4) (H ((k:I)+1))) (A R_ 9) (H (((vw s).2:I)+1))).1;rw[Xd,Xd];omega
  have a1:=Y<|a5.o _ ((Se (Se wr (A R_ 4) (H ((k:I)+1))) (A R_ 9) (H (((vw s).2:I)+1))).drew.drew) ((((Vab.refl (Z w.1+1) R_ gv gh wr).set (bC R) _).set (bC R) _).drew.drew) a0.o;have HC:=Y<|b3.o s k ta nt ct ka kn kc K _ aj.o a1.o a2 b4 hk J_.self;clear a2;generalize T s=bm at*;generalize P s=bn at*;generalize (vw s).b=sb at*;generalize (vw s).2=be at*;go_wp2
  go_region_held3 (λd=>E d (A R_ 4)=S (H k)/\E d (A R_ 3)=S (H fuel)) (go_keep) (fail)
  go_wp2
  go_region_held3 (λd=>E d (A R_ 7)=S (Hl G_ n cn)/\E d (A R_ 8)=S (H sb)/\E d (A G_ sb)=S (Hl F ln V)/\E d (A R_ 9)=S (H be)/\E d (A F be)=S (.iface bm bn)) (go_keep) (fail)
  go_wp2_with fail
  refine HC.mono ?_;rintro v C⟨c,rfl,p,h,l,x,z,y,u,hq⟩;obtain⟨V_,hp⟩:∃B,fuel-k=B+1:=⟨fuel-k-1,O⟩;have b1:fuel-(k+1)=V_:=O;obtain⟨hc,value,L,X_,ac,S_,ab,hq,hout⟩|⟨rfl,a,hok',hnt',hq,hout⟩:=hq
  .have g:=I_.o;rw[hp,hout V_]at g;subst g;have b7:(c != 0)=So:=by simp[hc]
   have e:=J_.on hq;have bh:=Y e;have d1:=e.2.1.2;have d2:=e.2.1.3;have d4:=e.2.1.5;have d5:=e.2.1.6;have ce:=e.1.4;have bq:R_<Z C.1:=O;have H_:=Y<|ao.keep (e.1.5 (Z w.1) O O O O);have bc:Z w.1+1<=Z C.1:=O;clear hq hout e hp hc;go_wp2_with (go_at_call 81;refine YU (VbE C d1 d2 d4 d5 bq) λw2 m=>?_;obtain⟨⟨Y_,Z_,r2,r3,r4⟩,rz⟩:=H_.keep<|m.5 (Z w.1) bc;have F_:=Y<|Vb4 bh.o af.o bc O_ Q_ P_ m;clear m)
   exact YL (v:=Sa #[H c,H value,H ((k:I)+1),X p h l,Hl gh 32 ch]) ⟨p,h,l,R,x,z,y,L,X_,ac,u,F_.o _ _ _ _ _⟩
  have g:=I_.o;rw[hp,hout V_,<-b1]at g;have e:=J_.on hq;have bt:=e.2.1.5;have HN:=Y (show Vai w0 C R_ aa na ca gh ch p h l fuel (k+1:N) 0 gv nv cv G_ n cn (vw a).b (vw a).2 x z y (Z w.1+1) (vw a).3 (vw a).4 (vw a).5 u/\o a/\j C/\h<=k+1/\k+1<=fuel/\out (fuel-(k+1)) (k+1) a=f from⟨e,hok',a5.o _ _ hq.1 a1.o,hnt',O,g⟩);clear hq hout e hp g;have a6:fuel-(JB<|(E C (A R_ 4)).getD Su).toNat<fuel-(JB<|(E wr (A R_ 4)).getD Su).toNat:=by rw[bt,c4];simp[JB];omega
  have bf:=Y a6;clear a6;go_wp2;exact⟨⟨a,k+1,p,h,l,x,z,y,u,HN⟩,bf.o⟩
 have b0:k=fuel:=O;subst b0;have g:=I_.o;rw[kL,bx.o]at g;subst g;have c1:=r.2.1.2;have c2:=r.2.1.3;have c5:=r.2.1.6;have H_:=Y<|ao.keep (r.1.5 (Z w.1) O O O O);have bl:=Y r.drew;go_wp2
 go_region_held3 (λd=>E d (A R_ 4)=S (H k)/\E d (A R_ 3)=S (H k)) (go_keep) (fail)
 go_wp2_with (go_at_call 81;refine YU (VbE wr.drew c1 c2 c4 c5 bp) λw2 m=>?_;obtain⟨⟨Y_,Z_,r2,r3,r4⟩,rz⟩:=H_.keep<|m.5 (Z w.1) a3;have F_:=Y<|Vb4 bl.o af.o a3 O_ Q_ P_ m;clear m)
 exact YL (v:=Sa #[H 3,H 0,H k,X ta nt ct,Hl gh 32 ch]) ⟨ta,nt,ct,R,ka,kn,kc,_,_,_,K,F_.o _ _ _ _ _⟩
end
def VaK(args:Wc)(a:I)(x:Yg):Uj :=
 if x.1=11 then .iface 251 (Sa #[H x.2,H x.a])else if x.1=12 then .iface 251 (Sa #[H a,H x.a])
 else if x.1=13 then .iface 251 (Sa #[H x.2,H a])else Vdi args x
theorem VbG(args:Wc)(a:I)(x:Yg):∃T V,VaK args a x=.iface T V:=by
 unfold VaK;split;·exact⟨_,_,R⟩
 split;·exact⟨_,_,R⟩
 split;·exact⟨_,_,R⟩
 exact VbO
theorem VbK{x:Yg}{args:Wc}(L:N)(c:N)(f:I)(w:Ub)(P:E w (A L 0)=S (X p n c))(T:E w (A L 11)=S (H f))(y:L<Z w.1)(ha:Q (Xf w m k p args))(V:Q (n=J args))(F:k<=Z w.1)(r:Yw t 13 x=So):
 Sk prog 79 #[Hn L,Sa #[H x.1,H x.2,H x.a,H x.b,H x.5]] w λv a=>v=Rt (VaK args f x)/\Sw (Z w.1) w a:=by
 have s:=λo=>Y<|ha.keep ((Xb (dC (Z w.1) w) o).drew.mono F);have u:=λo=>G ((Xb (dC (Z w.1) w) o).drew.cell (p:=A L 0) y) P;have B:=λo=>G ((Xb (dC (Z w.1) w) o).cell (p:=A L 11) y) T;obtain⟨⟨K,L_⟩,-,-,-⟩:=VaR r;by_cases b:x.1=11
 .obtain⟨j,d,g,l,h⟩:=x;dsimp only at*;subst b
  go_in
  go_wp2;go_ret;exact⟨VaN (by simp[VaK]),Xb Rf _⟩
 by_cases e:x.1=12
 .obtain⟨j,d,g,l,h⟩:=x;dsimp only at*;subst e;clear b
  go_in
  go_wp2
  go_region_held3 (λa=>E a (A L 11)=S (H f)/\E a (A (Z w.1) 2)=S (H g)) (go_keep) (fail)
  go_wp2;go_ret;exact⟨VaN (by simp[VaK]),(Xb Rf _).drew⟩
 by_cases i:x.1=13
 .obtain⟨j,d,g,l,h⟩:=x;dsimp only at*;subst i;clear b e
  go_in
  go_wp2
  go_region_held3 (λa=>E a (A L 11)=S (H f)/\E a (A (Z w.1) 1)=S (H d)) (go_keep) (fail)
  go_wp2;go_ret;exact⟨VaN (by simp[VaK]),(Xb Rf _).drew⟩
 have M:=Vbi r b e i;have W:=λo=>Y (VbV ((D w o).drew) (u o) SB (s o) V SB M);have z:Q (VaK args f x=Vdi args x):=Y (by unfold VaK;rw[aM b,aM e,aM i]);have e1:(x.1==11)=Sn:=SB
 have e2:(x.1==12)=Sn:=SB
 have e3:(x.1==13)=Sn:=SB
 rw[z.o];generalize Vdi args x=NV at*;obtain⟨j,d,g,l,h⟩:=x;dsimp only at*;clear r M s u B b e i z
 go_in
 go_wp2
 go_region_held3 (λa=>E a (A (Z w.1) 0)=S (H j)/\E a (A (Z w.1) 1)=S (H d)/\E a (A (Z w.1) 2)=S (H g)/\E a (A (Z w.1) 3)=S (H l)/\E a (A (Z w.1) 4)=S (H h)) (go_keep) ((go_at_call 148;refine YU (W _) λM_ q=>?_;obtain⟨I_,f1,f2,f3,J_⟩:=Vcm<|q.mono (B':=Z w.1+1) sP;have C:=Y<|Xg (Xb (dC (Z w.1) w) _).drew q;clear q))
 go_wp2;go_ret;exact⟨R,C.o⟩
def Vdj(b:List ag)(args:Wc)(a:I)(i:N):Wo:=(Vdg b i).1.map (VaK args a)
def Vcb(x:Yj):Uj:=Sa #[H x.1,H x.a,H x.3,Hq,H x.4,Hq]
def Vc1(a:List ag)(i:N)(_:Ub)(_ _:N)(v:Uj):Prop:=v=Vcb (Vdg a i).2
theorem Vbc(a:List ag)(i:N):VbZ (Vc1 a i):=⟨λh _=>h,λh _ _=>h⟩
theorem Va3(c_:N){f:List ag}{args:Wc}(Q_:N->Option Uj){La Ba:N}(ha:Q (d7 w i j p f))(hx:Q (m=J f))(hs:Q (J f+VaJ f<=16777216))(hB:j<=k)(hR:k<Z w.1)(a9:Ba<=k)(ch:Q (Xf w La Ba P args))(cn:Q (B=J args))(cg:Q (VaB n f=So))(cj:Q (VaW w k P B g Hq Q_))(g1:Q (Q_ 11=S (H t)))(c8:1<=m):
 Sk prog 36 #[Hn k,Sa #[H n,X p m c_]] w
  λh e=>h=Rt (St #[])/\∃L c' gs cs vs,Kb (Z w.1) k k w e/\(Z w.1<=L/\L<Z e.1)/\VaW e k P B g (Hl L m c') Q_/\Vbx e (Z w.1) (Z e.1) L m (Vdj f args t) (Vc1 f) gs cs vs:=by
 have c9:m<=16777216:=by have:=hx.o;have:=hs.o;omega
 obtain⟨i0,bi,bq,br,bt⟩:=fX Vda;obtain⟨j0,ck,cp,cq,cr⟩:=fX Vc9;have a6:Q (∀x,Vbf (D w x) k P B g Q_ (Vdj f args t) (Vc1 f) 0 [] U 0 (D w x)):=Y λx=>Vbf.start<|cj.keep ((Xb (dC (Z w.1) w) x).5 k hR);have a0:Q (∀x,Sw (Z w.1) w<|D w x):=Y λx=>Xb (dC (Z w.1) w) x;have a5:Q (∀x,Z (D w x).1=Z w.1+1):=Y λx=>sP
 go_in
 go_wp2;have a7:=Y<|a6.o (Sc #[H n,X p m c_] 38);have ab:=Y<|a0.o (Sc #[H n,X p m c_] 38);have b6:=Y<|a5.o (Sc #[H n,X p m c_] 38);generalize (D w (Sc #[H n,X p m c_] 38))=wB at*;have da:=b6.o
 go_loopw [13] (λW wr=>∃(d:N)(Us:Wo)(S_:Uy)(O_:N),d<=m/\W=H d/\Q (Vbf wB k P B g Q_ (Vdj f args t) (Vc1 f) d Us S_ O_ wr)) λW _=>m-(JB W).toNat
 .exact⟨0,[],U,0,aN,R,a7⟩
 obtain⟨d,Us,S_,O_,hk,rfl,hinv⟩:=hrel;have c6:=hinv.1.4;by_cases L_:d<m;rotate_left
 .have cm:d=m:=O;subst cm;obtain⟨L,gs,cs,vs,rfl,hG,bn⟩:=hinv.table (Vbc _) O;have b8:=Y<|bn.mono (lo':=Z w.1) (Vbc f) O (aA);clear bn;have b5:Q (Kb (Z w.1) k k w wr):=Y<|(Kb.of_below ab.o).trans (hinv.1.mono O);go_wp2;exact uT (v:=St #[]) (by simp[JC,results36,go_sem]) R ⟨R,L,O_,gs,cs,vs,b5.o,O,hinv.2,b8.o⟩
 have R_:d<J f:=by have:=hx.o;omega
 have BO:=Vcw cg.o R_;obtain⟨l,o_,rfl,⟨_,bd⟩,hc⟩:=ha.o d R_;rw[show f[d]=Vdg f d from(Vba R_).symm]at hc;have cz:J (Vdg f d).1<=16777216:=by rw[Vba R_];have:=Vbw<|aH R_;have:=hs.o;omega
 obtain⟨ia,ic,e0,⟨e2,e3,e4,e5⟩,bl⟩:=(hc.keep (ab.mono (B':=j) O) bd).keep (hinv.1.below (a:=j) O hB hB) bd;have a2:=Y bl;have bm:=Y BO.2;obtain⟨s0,W_,sz,so⟩:=hinv.2;have ar:=G (so 11 vY) g1.o;clear hc BO bl so;generalize hX:Vdg f d=c at*;have HX:=Y hX;clear hX;have a3:=λo_=>VcN wr o_ 148
 generalize hK:c.2.1=y at*;generalize ba:c.2.a=o at*;generalize bc:c.2.3=C at*;generalize bb:c.2.4=z at*;have b1:Q (Vcb c.2=Sa #[H y,H o,H C,Hq,H z,Hq]):=Y (by unfold Vcb;rw[hK,ba,bc,bb]);clear hK ba bc bb;have a1:Q (∀x aa e,Sw (Z wr.1+1) (D (D wr<|Sc #[X ia (J c.1) ic,H y,H o,H C,H z] x) aa) e->E e (A (Z wr.1) 1)=S (H y)/\E e (A (Z wr.1) 2)=S (H o)/\E e (A (Z wr.1) 3)=S (H C)/\E e (A (Z wr.1) 4)=S (H z)):=Y (λx aa e F=>by have q:=F.5 (Z wr.1) O;refine⟨G (Xc q) ?_,G (Xc q) ?_,G (Xc q) ?_,G (Xc q) ?_⟩<;>simp[go_sem])
 go_wp2;have bx:=Y (a1.o 60 (Sc #[] 148));generalize U_:(D (D wr (Sc #[X ia (J c.1) ic,H y,H o,H C,H z] 60)) (Sc #[] 148))=Z_ at*;have be:Sw (Z wr.1) wr Z_:=by rw[<-U_];exact Xb (Xb Rf _) _
 have db:Z Z_.1=Z wr.1+1+1:=by rw[<-U_];simp
 have a4:Q (Sx Z_ (Z wr.1+1) 148 1 (Hl (Z wr.1+1) 0 0) 0 []):=Y (by rw[<-U_];exact a3 _);have b0:=Y be;clear U_ a3 be;generalize wr=wo at*;generalize hM:Z wo.1=M at*
 go_loopw [6,21] (λY_ W a=>∃r:N,r<=J c.1/\W=H r/\Sw (M+1) Z_ a/\M+1<Z a.1/\Q (Sx a (M+1) 148 1 Y_ r ((c.1.take r).map (VaK args t)))) λ_ W _=>J c.1-(JB W).toNat
 .exact⟨0,aN,R,Rf,O,by simpa using a4⟩
 obtain⟨r,hj,rfl,V_,dc,u⟩:=hrel;generalize wr=a at*;have v:Sw M wo a:=b0.trans<|V_.mono O;obtain⟨y1,y2,y3,y4⟩:=bx.o a V_;have bp:=Y v;have ca:=Y V_;clear e0 e2 e3 e4 e5 V_;by_cases ao:r<J c.1
 .obtain⟨b3,o3,rfl,⟨_,ci⟩,bf⟩:=a2.o r ao;obtain⟨bv,i1,i2,i3,i4⟩:=bf.keep (v.mono (B':=j) O) ci;have ap:=bm.o r ao;obtain⟨xi,aq⟩:∃xi,c.1[r]=xi:=⟨_,R⟩;rw[aq]at ap bv i1 i2 i3 i4;obtain⟨op,cf,xa,xb,ct⟩:=xi;dsimp only at bv i1 i2 i3 i4;obtain⟨cc,cd,bo⟩:=VbG args t ⟨op,cf,xa,xb,ct⟩;have a8:=Y bo;have cb:=Y aq;have az:=λx=>Y<|((ch.keep<|ab.mono O).keep (hinv.1.below O a9 a9)).keep ((v.mono (B':=Ba) O).trans ((Xb (dC (Z a.1) a) x).mono O))
  have b4:=λx=>Y (by have F:=VbK k g t (D a x) (G ((Xb (dC (Z a.1) a) x).cell (p:=A k 0) (by show k<_;omega)) (G (XU v O) s0)) (G ((Xb (dC (Z a.1) a) x).cell (p:=A k 11) (by show k<_;omega)) (G (XU v O) ar)) SB (az x) cn SB ap;dsimp only at F;exact F)
  clear bo aq ap az bf v s0 W_ sz ar y1 y2 y3 y4;go_wp2_with fail
  refine YU (b4 _) λw2 aj=>?_;rw[a8.o];have co:=aj.4;simp at co;have T_:=Y<|Xg (Xb (dC (Z a.1) a) _) aj;clear aj;go_wp2_with (at_builtin;refine wpList_append_lies _ R _ _ 146 R (M+1) 148 i0 .nilIface 1 16 underlying146 bi bq br bt R vY u6 r (((c.1.take r).map (VaK args t))) SE (Zl u.o λl h=>((Xb T_.o _).5 l (u.lt l h).2)) (A (Z w2.1) 0) 1 1 [.iface cc cd] SE R (XE<|l9 _ _) (by intro Y_ T;simp at T;subst T;rfl) vY SD O SB (Z w2.1+1) sP ?_;intro af ad b V s J_ L_;have al:=s.4;simp at al;have I_:=Y (Xy ((ca.trans<|T_.mono O).alloc (by have:=T_.4;omega) _) s (Zl u.o λl h=>((Xb T_.o _).5 l (u.lt l h).2)) O SB);have ac:=Y V;clear V s J_ L_)
  exact⟨⟨r+1,O,gM,I_.o,O,Y<|by rw[X7 ao,bG];show Sx b _ _ _ _ _ (_++[VaK args t c.1[r]]);rw[cb.o,a8.o];exact ac.o⟩,SA⟩
 have cl:r=J c.1:=O;subst cl;have c7:=λx=>G ((Xb (dC (Z a.1) a) x).cell (p:=A k 7) (by show k<_;omega)) (G (XU v O) W_);have cw:=λx aa=>G ((Xb (Xb (dC (Z a.1) a) x) aa).cell (p:=A k 7) (by show k<_;omega)) (G (XU v O) W_);rw[gC]at u;clear s0 sz v ar;go_wp2;refine Y7 (λe=>E e (A (Z a.1) 0)=S (H y)/\E e (A (Z a.1) 1)=S (H o)/\E e (A (Z a.1) 2)=S (H C)/\E e (A (Z a.1) 3)=S Hq/\E e (A (Z a.1) 4)=S (H z)/\E e (A (Z a.1) 5)=S Hq) λig=>?_;refine Xn 0 ?_;(iterate 4 refine Rm ?_);refine Xn 6 ?_;refine Xn 7 ?_;refine Xn 8 ?_;refine eS (rs:=[5,9]) vZ sP ?_;refine(bQ R (λK hK=>?_) (bQ R (λK hK=>?_) dY));go_simp;refine hK _ _ kP λig=>?_;clear hK
 try simp only[Act.put,xA,xB,xC,xD,xE,xF]
 refine Xs 9 λK hK=>?_;go_simp;refine hK _ _ kP λig=>?_;clear hK;refine Xs 10 λK hK=>?_;rotate_left;go_simp;refine hK _ _ kP λig=>?_;clear hK;refine eS (rs:=[5,10]) vZ sP ?_;refine(bQ R (λK hK=>?_) (bQ R (λK hK=>?_) dY));go_simp;refine hK _ _ kP λig=>?_;clear hK
 try simp only[Act.put,xA,xB,xC,xD,xE,xF]
 refine Xs 10 λK hK=>?_
 all_goals
  refine XC _ R (.tmp 53) (.tmp 56) 146 R (M+1) 148 i0 .nilIface 1 16 underlying146 bi bq br bt R vY u6 (J c.1) (c.1.map<|VaK args t) SE (Zl u.o λl h=>((Xb (Xb (dC (Z a.1) a) _) _).5 l (u.lt l h).2)) (A (Z a.1+1) 0) 1 1 [.iface 154 (Sa #[H y,H o,H C,Hq,H z,Hq])] SE R ?_ (by intro Y_ T;simp at T;subst T;rfl) vY SD O SB (Z a.1+1+1) sP ?_;·exact XE (by have F:=l9 (D a (Sc #[H y,H o,H C,Hq,H z,Hq] 154)) (Sc #[.iface 154 (Sa #[H y,H o,H C,Hq,H z,Hq])] 148);rw[aO]at F;exact F)
  intro af ad b V s J_ L_;have al:=s.4;simp at al;have I_:=Y (Xy (((bp.alloc O _).drew).alloc SB _) s (Zl u.o λl h=>((Xb (Xb (dC (Z a.1) a) _) _).5 l (u.lt l h).2)) O SB);have ac:=Y V;have p7:=G (XU I_.o O) W_;have df:=λx=>G ((Xb (dC (Z b.1) b) x).cell (p:=A k 7) (by show k<_;omega)) p7;have cv:=G (I_.frozen (p:=A k 7) (by show k<_;omega)) (hinv.2.2.2.1 7);have bh:S (Z a.1)≠u6.ownBlock:=λh=>by have:=(u.lt _ h.symm).2;omega
  obtain⟨q,-⟩:=rF s (k:=Z a.1) SB bh;have q0:=G (q 0) (show _=S (H y) by simp[go_sem]);have q1:=G (q 1) (show _=S (H o) by simp[go_sem]);have q2:=G (q 2) (show _=S (H C) by simp[go_sem]);have q3:=G (q 3) (show _=S Hq by simp[go_sem]);have q4:=G (q 4) (show _=S (H z) by simp[go_sem]);have q5:=G (q 5) (show _=S Hq by simp[go_sem]);have cx:M<Z b.1:=O;have N_:Z a.1<Z b.1:=O;clear q V s J_ L_ bh;refine hK _ _ kP λig=>?_;clear hK
 refine Xs 11 λK hK=>?_;rotate_left;refine eS (rs:=[5,11]) vZ sP ?_;refine(bQ R (λK hK=>?_) (bQ R (λK hK=>?_) dY));go_simp;refine hK _ _ kP λig=>?_;clear hK
 try simp only[Act.put,xA,xB,xC,xD,xE,xF]
 refine Xs 11 λK hK=>?_;rotate_left;rotate_left;refine Xs 11 λK hK=>?_
 all_goals
  go_simp;refine hK _ _ kP λig=>?_;clear hK
 refine Xs 12 λK hK=>?_;rotate_left;refine Xs 12 λK hK=>?_;rotate_left;refine Xs 12 λK hK=>?_;rotate_left;refine Xs 5 λK hK=>?_;go_simp;refine hK _ _ kP λig=>?_;clear hK;refine Xs 12 λK hK=>?_
 all_goals
  refine XC _ R (.tmp 52) (.tmp 58) 65 R (Z wB.1) 146 j0 Hq 1 24 underlying65 ck cp cq cr R vY (X S_ d O_) d Us SE (Zl hinv.3 λl h=>((I_.alloc O _).5 l (by have:=(hinv.3.lt l h).2;omega))) (A (Z b.1) 0) 1 1 [Hl af (J c.1+1) ad] SE R ?_ (by intro Y_ T;simp at T;subst T;rfl) vY SD O SB (Z b.1+1) sP ?_;·exact XE<|l9 _ _
  intro L ce w4 V s J_ L_;have b7:=Y (hinv.step (Vbc _) O (by rw[hM];exact I_.o) (VaV.of_own (base:=M+1) (L:=Z wo.1) (nv:=Vdj f args t d) (E_:=Vc1 f d) (by unfold Vdj;rw[bK,HX.o]) O (by unfold Vdj;rw[HX.o];exact ac.o) (by unfold Vc1;rw[HX.o,b1.o])) V s J_);have nR:S k≠(X S_ d O_).ownBlock:=λh=>by have:=(hinv.3.lt _ h.symm).1;omega
  have nW:S (Z a.1)≠(X S_ d O_).ownBlock:=λh=>by have:=(hinv.3.lt _ h.symm).2;have:=bp.4;omega
  obtain⟨q,qz⟩:=rF s (k:=k) SB nR;obtain⟨x,-⟩:=rF s (k:=Z a.1) SB nW;have r7:=G (q 7) (G ((Xb (dC (Z b.1) b) _).cell (p:=A k 7) (by show k<_;omega)) p7);have di:=G (qz 7) (G ((Xb (dC (Z b.1) b) _).frozen (p:=A k 7) (by show k<_;omega)) cv);have x0:=G (x 0) (G ((Xb (dC (Z b.1) b) _).cell (p:=A (Z a.1) 0) N_) q0);have x1:=G (x 1) (G ((Xb (dC (Z b.1) b) _).cell (p:=A (Z a.1) 1) N_) q1);have x2:=G (x 2) (G ((Xb (dC (Z b.1) b) _).cell (p:=A (Z a.1) 2) N_) q2);have x3:=G (x 3) (G ((Xb (dC (Z b.1) b) _).cell (p:=A (Z a.1) 3) N_) q3);have x4:=G (x 4) (G ((Xb (dC (Z b.1) b) _).cell (p:=A (Z a.1) 4) N_) q4);have x5:=G (x 5) (G ((Xb (dC (Z b.1) b) _).cell (p:=A (Z a.1) 5) N_) q5);have dd:k≠Z a.1:=O;clear q qz x V s J_ L_ nR nW;refine hK _ _ kP λig=>?_;clear hK;refine Xn 13 ?_;refine Xn 14 ?_;refine Xn 15 ?_;refine Xs 16 λK hK=>?_;go_simp;refine hK _ _ kP λig=>?_;clear hK;refine Yq ?_;go_wp2;exact⟨⟨d+1,Us++[Hl af (J c.1+1) ad],S (A L 0),ce,O,gM,b7⟩,SA⟩
def Vc6:Value->TypeId
 |.iface T _=>T
 |_=>0
def Vc7:Value->Value
 |.iface _ V=>V
 |v=>v
def Vdt(s:Vae):Vak:=⟨s.b,s.2,s.3++[s.4],s.5,s.6⟩
def Vdh(a:List ag)(args:Wc)(b:I)(s:Vae):Uj:=if h:s.2<J (Vdg a s.b).1 then VaK args b (Vdg a s.b).1[s.2]else .iface 154 (Vcb (Vdg a s.b).2)
theorem VcP{a:List ag}{args:Wc}(s:Vae):Value.iface (Vc6<|Vdh a args t s) (Vc7<|Vdh a args t s)=Vdh a args t s:=by
 unfold Vdh;split
 .obtain⟨T,V,h⟩:=VbG args t (Vdg a s.b).1[s.2];rw[h];rfl
 rfl
def Vdm(a:List ag)(n m:N)(s:Vae):Prop:=s.b<n/\s.2<=J (Vdg a s.b).1/\J s.3=m/\J s.5=32
theorem Vas{a:List ag}{args:Wc}{Bt:N}(v:k=J a)(x:J a+VaJ a<=16777216)(s:Vae)(e:Vdm a k B s)(i:Vbx w n Bt m k (Vdj a args t) (Vc1 a) f F h):
 ∃g ln d,E w (A m s.b)=S (Hl g ln d)/\s.b<k/\s.2<ln/\s.2<=16777216/\E w (A g s.2)=S (.iface (Vc6<|Vdh a args t s) (Vc7<|Vdh a args t s)):=by
 obtain⟨c,y,z,K⟩:=e;obtain⟨j,C,l,o,p⟩:=i s.b c;have u:J (Vdj a args t s.b)=J (Vdg a s.b).1:=by unfold Vdj;rw[bK]
 have b:s.b<J a:=O;have r:J (Vdg a s.b).1<=16777216:=by rw[Vba b];have:=Vbw<|aH b;omega
 refine⟨f s.b,_,F s.b,j,c,O,O,?_⟩;rw[VcP];unfold Vdh;split
 .rename_i q;have:=l s.2 O;rw[this];simp[Vdj]
 have:s.2=J (Vdj a args t s.b):=O;rw[this,<-show h s.b=Vcb (Vdg a s.b).2 from p];exact o
theorem VcA{x:Yg}{args:Wc}{hp tr:Wc}{sc:I}(i:(J l:I)=t)(m:Yw t 10 x=So):
 VaH x args (l++[sc]) hp=VaH x args l hp++[sc]/\VaI x (l++[sc]) hp=VaI x l hp/\VaT x (l++[sc]) tr=VaT x l tr/\(x.1=6->Vc4 (l++[sc]) x.b=Vc4 l x.b):=by
 obtain⟨⟨o,p⟩,fd,j,k,n⟩:=VaU m;have e:aB x.1=So->Vc4 (l++[sc]) x.a=Vc4 l x.a:=λh=>VaO (j h).1 (by rw[i];exact(j h).2);have g:bB x.1=So->Vc4 (l++[sc]) x.b=Vc4 l x.b:=λh=>VaO (k h).1 (by rw[i];exact(k h).2);have sd:dB x.1=So->∀v,VaF (l++[sc]) x.2 v=VaF l x.2 v++[sc]:=λh v=>Vbz (fd h).1 (by rw[i];exact(fd h).2);refine⟨?_,?_,?_,λh=>g<|by simp[bB,h]⟩
 .unfold VaH;by_cases c:x.1=1;·rw[aU c,aU c];exact sd (by simp[dB,c]) _
  rw[aM c,aM c];by_cases d:x.1=2;·rw[aU d,aU d];exact sd (by simp[dB,d]) _
  rw[aM d,aM d];by_cases b:x.1=8;·rw[aU b,aU b,e<|by simp[aB,b]];exact sd (by simp[dB,b]) _
  rw[aM b,aM b];by_cases a:x.1=9;·rw[aU a,aU a]
  rw[aM a,aM a];by_cases f:x.1=10;·rw[aU f,aU f]
  rw[aM f,aM f,e (by simp[aB];omega),g<|by simp[bB];omega];exact sd (by simp[dB];omega) _
 .unfold VaI;by_cases a:x.1=9;·rw[aU a,aU a,e (by simp[aB,a]),g<|by simp[bB,a]]
  rw[aM a,aM a]
 unfold VaT;by_cases a:x.1=10;·rw[aU a,aU a,e<|by simp[aB,a]]
 rw[aM a,aM a]
theorem VcO{x:Yg}(h:Yw t 10 x=So):Yw (t+1) 10 x=So:=by
 simp only[Yw,bY,bD,Tp]at h |-;obtain⟨⟨⟨⟨d,a⟩,b⟩,c⟩,f⟩:=h;refine⟨⟨⟨⟨d,?_⟩,?_⟩,?_⟩,f⟩
 .split at a;·rename_i e;rw[aU e];simp only[bY,bD]at a |-;omega
  rename_i e;rw[aM e];exact a
 .split at b;·rename_i e;rw[aU e];simp only[bY,bD]at b |-;omega
  rename_i e;rw[aM e];exact b
 split at c;·rename_i e;rw[aU e];simp only[bY,bD]at c |-;omega
 rename_i e;rw[aM e];exact c
theorem VcE{a:List ag}(args:Wc){b cv ap y cn Bt lo:N}(a6:VaB b a=So)(hn:y=J a)(hf:n<=60000)(hR:m<lo)(bd:j<lo)(bc:g<lo)(v:m≠j)(T:m≠g)(bl:lo<=Bt)(s:Vae){d:N}{z C:N}{K:Uy}{M L:N}(ad:Vdm a y b s)(N_:Bt<=Z w.1)(bm:z<=d)(hk:d<n)(V:Vai w w m p k B g i P z C n ((d:I)+1) 0 j (b+1) cv ap y cn s.b ((s.2:I)+1) K M L Bt (s.3++[s.4]) s.5 s.6 l):
 Sk prog 80 #[Hn m,.iface (Vc6<|Vdh a args b s) (Vc7<|Vdh a args b s)] w λv_ u=>∃c,v_=Rt (H c)/\∃ao Y_ aa af al aj Z_,
  ((c≠0/\∃value b' ba bb a3 a5,Vai w u m p k B g i ao Y_ aa n ((d:I)+1) value j (b+1) cv ap y cn b' ba af al aj Bt bb a3 a5 Z_/\∀q,VaM a args (q+1) d s=⟨c,value,d+1,a5,a3⟩) \/
   (c=0/\∃o,Vdm a y b o/\Y_<=d+1/\Vai w u m p k B g i ao Y_ aa n ((d:I)+1) 0 j (b+1) cv ap y cn o.b o.2 af al aj Bt (o.3++[o.4]) o.5 o.6 Z_/\∀q,VaM a args (q+1) d s=VaM a args q (d+1) o)):=by
 obtain⟨o1,o2,e,S_⟩:=ad;have a8:s.b<J a:=O;have BO:=Vcw a6 a8;have W:b+1=J (s.3++[s.4]):=by rw[aQ,nR,e]
 rw[VcP];unfold Vdh;by_cases G_:s.2<J (Vdg a s.b).1
 .rw[dif_pos G_];have ad:=BO.2 s.2 G_;obtain⟨⟨p1,p2⟩,fd,fa,fb⟩:=VaR ad;have ab:∀o,Va1 (Vdg a s.b).1[s.2] args s=.go o->∀q,VaM a args (q+1) d s=VaM a args q (d+1) o:=λo h q=>by rw[VaM,Vau,dif_pos G_,h]
  have a9:Va1 (Vdg a s.b).1[s.2] args s=.trap->∀q,VaM a args (q+1) d s=⟨2,0,d+1,s.6,s.5⟩:=λh q=>by rw[VaM,Vau,dif_pos G_,h]
  generalize (Vdg a s.b).1[s.2]=x at*;by_cases f:x.1=11
  .obtain⟨V_,d1⟩:=fd (by simp[dB,f]);obtain⟨r,A_⟩:=fa (by simp[aB,f]);have e1:=Vbz (sc:=s.4) (v:=Vc4 (s.3++[s.4]) x.a) V_ (by rw[e];exact d1);rw[VaO r<|by rw[e];exact A_]at e1;have F:Va1 x args s=.go ⟨s.b,s.2+1,VaF s.3 x.2<|Vc4 s.3 x.a,s.4,s.5,s.6⟩:=by unfold Va1;rw[aU f]
   obtain⟨U_,X_⟩:=bX V_;obtain⟨T_,W_⟩:=bX r;rw[show VaK args b x=.iface 251 (Sa #[H U_,H T_]) by unfold VaK;rw[aU f,X_,W_]];refine YU (Vbj (Y V) (Y W) O O O O O v T N_) λu h=>?_;refine⟨0,R,P,z,C,K,M,L,l,aZ ⟨R,⟨s.b,s.2+1,VaF s.3 x.2<|Vc4 s.3 x.a,s.4,s.5,s.6⟩,⟨o1,by show s.2+1<=J (Vdg a s.b).1;omega,by show J (VaF _ _ _)=b;rw[Vbp];exact e,S_⟩,O,?_,ab _ F⟩⟩;have e2:(s.3++[s.4]).set U_ (Vc4 (s.3++[s.4]) T_)=VaF s.3 x.2 (Vc4 s.3 x.a)++[s.4]:=by rw[<-e1,W_,X_,VaO O<|by rw[e];omega];simp[VaF]
   rw[e2]at h;exact h
  by_cases t:x.1=12
  .obtain⟨r,A_⟩:=fa (by simp[aB,t]);have F:Va1 x args s=.go ⟨s.b,s.2+1,s.3,Vc4 s.3 x.a,s.5,s.6⟩:=by unfold Va1;rw[aM f,aU t]
   obtain⟨T_,W_⟩:=bX r;rw[show VaK args b x=.iface 251 (Sa #[H b,H T_]) by unfold VaK;rw[aM f,aU t,W_]];refine YU (Vbj (Y V) (Y W) O O O O O v T N_) λu h=>?_;refine⟨0,R,P,z,C,K,M,L,l,aZ ⟨R,⟨s.b,s.2+1,s.3,Vc4 s.3 x.a,s.5,s.6⟩,⟨o1,by show s.2+1<=J (Vdg a s.b).1;omega,e,S_⟩,O,?_,ab _ F⟩⟩;have e2:(s.3++[s.4]).set b (Vc4 (s.3++[s.4]) T_)=s.3++[Vc4 s.3 x.a]:=by have:=Vb7 s.3 s.4<|Vc4 s.3 x.a;rw[e]at this;rw[<-this,W_,VaO O<|by rw[e];omega];simp[VaF]
   rw[e2]at h;exact h
  by_cases J_:x.1=13
  .obtain⟨V_,d1⟩:=fd (by simp[dB,J_]);have F:Va1 x args s=.go ⟨s.b,s.2+1,VaF s.3 x.2 s.4,s.4,s.5,s.6⟩:=by unfold Va1;rw[aM f,aM t,aU J_]
   obtain⟨U_,X_⟩:=bX V_;rw[show VaK args b x=.iface 251 (Sa #[H U_,H b]) by unfold VaK;rw[aM f,aM t,aU J_,X_]];refine YU (Vbj (Y V) (Y W) O O O O O v T N_) λu h=>?_;refine⟨0,R,P,z,C,K,M,L,l,aZ ⟨R,⟨s.b,s.2+1,VaF s.3 x.2 s.4,s.4,s.5,s.6⟩,⟨o1,by show s.2+1<=J (Vdg a s.b).1;omega,by show J (VaF _ _ _)=b;rw[Vbp];exact e,S_⟩,O,?_,ab _ F⟩⟩;have e2:(s.3++[s.4]).set U_ (Vc4 (s.3++[s.4]) b)=VaF s.3 x.2 s.4++[s.4]:=by have:=Vcj s.3 s.4;rw[e]at this;rw[this,<-Vbz V_ (by rw[e];exact d1),X_];simp[VaF]
   rw[e2]at h;exact h
  have a4:=Vbi ad f t J_;obtain⟨x1,x2,x3,x4⟩:=VcA (args:=args) (hp:=s.5) (tr:=s.6) (sc:=s.4) (show(J s.3:I)=b by rw[e]) a4;have QD:Yw ((b+1:N):I) 10 x=So:=by have:=VcO a4;rw[kB];exact this
  rw[show VaK args b x=Vdi args x by unfold VaK;rw[aM f,aM t,aM J_]];by_cases Q_:x.1=6/\Vc4 s.3 x.b=0
  .refine YU (Vca (Y V) (Y W) QD Q_.1 (by rw[x4 Q_.1];exact Q_.2) O O O v T N_) λu h=>?_;refine⟨2,R,P,z,C,K,M,L,l,bC ⟨vY,0,_,_,_,_,_,h,a9 ?_⟩⟩;unfold Va1;rw[aM f,aM t,aM J_,aU Q_]
  refine YU (VcQ (Y V) (Y W) (Y S_) O QD (λh=>Q_ ⟨h.1,by rw[<-x4 h.1];exact h.2⟩) O O O v T N_) λu⟨ao,Y_,aa,h⟩=>?_;rw[x1,x2,x3]at h;have bf:=h.2.2.1.len;have bh:=V.2.2.1.len;have bi:=Vbd x s.3 s.6;have F:Va1 x args s=.go ⟨s.b,s.2+1,VaH x args s.3 s.5,s.4,VaI x s.3 s.5,VaT x s.3 s.6⟩:=by unfold Va1;rw[aM f,aM t,aM J_,aM Q_]
  exact⟨0,R,ao,Y_,aa,K,M,L,l,aZ ⟨R,⟨s.b,s.2+1,VaH x args s.3 s.5,s.4,VaI x s.3 s.5,VaT x s.3 s.6⟩,⟨o1,by show s.2+1<=J (Vdg a s.b).1;omega,by show J (VaH _ _ _ _)=_;rw[Vbk];exact e,by show J (VaI _ _ _)=_;rw[Vbb];exact S_⟩,O,h,ab _ F⟩⟩
 rw[dif_neg G_];unfold Vcb;have be:=VbT BO;refine VcU _ (Y λx=>?_);have O_:=V.next N_ O<|Xb Rf x;by_cases ac:(Vdg a s.b).2.1=3
 .obtain⟨r,A_⟩:=VbM BO O;obtain⟨xa,R_⟩:=bX r;have a2:Vc4 (s.3++[s.4]) (Vdg a s.b).2.a=Vc4 s.3 (Vdg a s.b).2.a:=VaO r (by rw[e];exact A_);rw[R_]at A_ a2;rw[ac,R_];refine YU (VcC (Y O_.2.1) (Y O_.2.2) (Y W) O O O v T (by rw[aO];omega)) λu⟨h1,h2,h3⟩=>?_;refine⟨1,R,P,z,C,K,M,L,l,bC ⟨vY,_,_,_,_,_,_,⟨O_.1.trans h1,h2,h3⟩,λq=>?_⟩⟩;rw[VaM,Vau,dif_neg G_,aU ac,R_,a2]
 obtain⟨g0,g1⟩:=VcM BO ac s.3;have ar:Vc5 (Vdg a s.b) s.3=if (Vdg a s.b).2.1=2/\Vc4 s.3 (Vdg a s.b).2.a=0 then (Vdg a s.b).2.4 else (Vdg a s.b).2.3:=R
 have az:∀q,VaM a args (q+1) d s=VaM a args q (d+1) ⟨(Vc5 (Vdg a s.b) s.3).toNat,0,s.3,s.4,s.5,s.6⟩:=λq=>by rw[VaM,Vau,dif_neg G_,aM ac]
 obtain⟨aq,hT⟩:=bX (show 0<=Vc5 (Vdg a s.b) s.3 by omega);rw[hT]at az g1 ar;rw[dM]at az;have a7:Vdm a y b ⟨aq,0,s.3,s.4,s.5,s.6⟩:=⟨by show aq<y;omega,aN,e,S_⟩;refine(VcH (T:=aq) (Y O_.2.1) (Y O_.2.2) (Y W) ?_ O O v T (by rw[aO];omega)).mono ?_
 .by_cases e2:(Vdg a s.b).2.1=2
  .obtain⟨r,A_⟩:=VbM BO O;obtain⟨xa,R_⟩:=bX r;refine aZ ⟨e2,xa,R_,O,?_⟩;rw[<-R_,VaO r (by rw[e];exact A_),ar];simp only[e2,true_and]
  exact bC ⟨O,by rw[ar,aM λh=>e2 h.1]⟩
 rintro v_ u⟨rfl,af,al,aj,Z_,h1,h2,h3⟩;exact⟨0,R,P,z,C,af,al,aj,Z_,aZ ⟨R,_,a7,O,⟨O_.1.trans h1,h2,h3⟩,az⟩⟩
theorem VbS{a:List ag}{args:Wc}{L K b z d:N}(S_:VaL w m p k B g i U 0 0 n 0 0 j (c+1) L K b z 0 0 U 0 0)(hv:VaC w j (List.replicate (c+1) 0))(V_:VaC w g (Va5 l))(aa:Vbx w d (Z w.1) K b (Vdj a args c) (Vc1 a) f F h)(N_:VaB c a=So)(M:b=J a)(aj:1<=b)(Y_:J a+VaJ a<=16777216)(T:n<=60000)(R_:m<d)(U_:j<d)(T_:g<d)(V:m≠j)(C:m≠g)(ab:j≠g)(Q_:d<=K/\K<Z w.1):
 Sk prog 37 #[Hn m] w
  λo w'=>∃y v e,o=Rt (Sa #[H (VaM a args n 0<|Vav c l).1,H (VaM a args n 0<|Vav c l).2,H (VaM a args n 0<|Vav c l).3,X y v e,Hl g 32 i])/\∃I_ L_ J_ M_ pc ad K_,Vai w w' m p k B g i y v e n (VaM a args n 0<|Vav c l).3 (VaM a args n 0<|Vav c l).2 j (c+1) L K b z M_ pc I_ L_ J_ (Z w.1) ad (VaM a args n 0<|Vav c l).5 (VaM a args n 0<|Vav c l).4 K_:=by
 refine VcB Vdt (Vdm a b c) (VaM a args) (λs=>Vc6<|Vdh a args c s) (λs=>Vc7<|Vdh a args c s) (λW=>Vbx W d (Z w.1+1) K b (Vdj a args c) (Vc1 a) f F h) (VaM a args n 0<|Vav c l) (Z w.1+1) (Vav c l)
  (Y ⟨S_,by have o:(Vdt<|Vav c l).3=List.replicate (c+1) 0:=(by show List.replicate c 0++[0]=_;rw[List.replicate_succ']);rw[o];exact hv,V_,R⟩) (Y ⟨by show 0<b;omega,aN,by simp[Vav],by simp[Vav,Va5]⟩) (Y R) T (Y λac s=>R)
  (Y λW W' r u=>u.keep (Vbc a) O λx O_ q=>r.5 x q O O O) (Y λs W t u=>Vas M Y_ s t u)
  (Y λs ac y v e I_ L_ J_ K_ W t _ P X_ r Z_=>VcE args N_ M T R_ U_ T_ V C O s t P X_ r Z_)
  O O O V C ab R (Y λaf=>?_)
 exact(aa.keep (Vbc a) Q_ λx O_ q=>(Xb (dC (Z w.1) w) af).5 x q).mono (Vbc a) (aA) O
section
structure Va2(xs:List ag)(args:Wc)(fuel:N)(R0:QO)(w:Ub)(a:Uy)(n c m ob gh ch Bt:N)(s:Vae)(k gv:N)(ta:Uy)(nt ct:N)(wr:Ub):Prop where
 below:Sw (Z w.1) w wr
 fb:Vaa wr (Z w.1) m a n c
 obl:Z w.1+1<ob
 ghl:Z w.1+1<gh
 gho:gh<ob
 obt:ob<Bt
 rb:Vaj wr (Z w.1+1)
 obx:Vah wr ob 3 0 k ta nt ct gh ch
 mem:VaA wr Bt gv gh 2 (X ta nt ct) s.3 s.5 s.6
 bts:Bt<=Z wr.1
 gvl:ob<gv
 sb:s.b<n
 vl:J s.3=m
 hl:J s.5=32
 tl:nt<=k
 kf:k<=fuel
 run:VaM xs args (fuel-k) k s=R0
section
variable{xs:List ag}{args:Wc}{fuel:N}{R0:QO}{w:Ub}{a:Uy}{n c m ob gh ch Bt:N}{s s':Vae}{k gv:N}{ta:Uy}{nt ct:N}{wr W w3:Ub}
theorem Va2.step(h:Va2 xs args fuel R0 w a n c m ob gh ch Bt s k gv ta nt ct wr)(F:k<fuel)(f:Kb (Z wr.1) ob ob wr W)(hK:Kb Bt gv gh W w3){g:Uy}{d e:N}(p:VaA w3 Bt gv gh 2 (X g d e) s'.3 s'.5 s'.6)(v:Vah w3 ob 3 0 (k+1:N) g d e gh ch)(q:s'.b<n)(z:J s'.3=m)(u:J s'.5=32)(y:d<=k+1)(x:VaM xs args (fuel-(k+1)) (k+1) s'=R0):
 Va2 xs args fuel R0 w a n c m ob gh ch Bt s' (k+1) gv g d e w3:=by
 have t:=h.11;have i:=h.3;have j:=h.4;have l:=h.5;have o:=h.6;have C:=h.10;have L:=h.1.4;have M:=f.4;have P:=hK.4;have r:Sw (Z w.1) w w3:=h.1.trans<|(f.below O O O).trans (hK.below O O O);have far:∀b,b<Bt->b≠gv->b≠gh->b≠ob->w3.1[b]?=wr.1[b]?:=λb q1 q2 K B=>G (hK.5 b q1 q2 K) (f.far O B);exact⟨r,h.2.keep<|far _ O O O O,i,j,l,o,h.7.keep<|far _ O O O O,v,p,O,t,q,z,u,y,O,x⟩
theorem Va2.next(h:Va2 xs args fuel R0 w a n c m ob gh ch Bt s k gv ta nt ct wr)(N_:k<fuel)(p:Kb (Z wr.1) ob ob wr W)(hK:Kb Bt gv gh W w3){g:Uy}{e f:N}(d:VaA w3 Bt gv gh 2 (X g e f) s'.3 s'.5 s'.6)(K:Vah W ob 3 0 (k+1:N) ta nt ct gh ch)(z:s'.b<n)(L:J s'.3=m)(C:J s'.5=32)(M:e<=k+1)(P:VaM xs args (fuel-(k+1)) (k+1) s'=R0):
 Va2 xs args fuel R0 w a n c m ob gh ch Bt s' (k+1) gv g e f (Se (Se (Se (Se (Se w3 ⟨ob,0,U⟩ (Si S6 3)) ⟨ob,1,U⟩ (Si S6 0)) ⟨ob,2,U⟩ (Si S6 (k+1:N))) ⟨ob,3,U⟩ (X g e f)) ⟨ob,4,U⟩ (X (S ⟨gh,0,U⟩) 32 ch)):=by
 have B:=h.11;have u:=h.3;have x:=h.4;have y:=h.5;have r:=h.6;have K_:=h.10;have O_:=h.1.4;have M_:=p.4;have L_:=hK.4;have T:Sw (Z w.1) w w3:=h.1.trans<|(p.below O O O).trans (hK.below O O O);have F:(X g e f).ownBlock≠S ob:=λo=>by have:=(d.3.lt _ o).1;omega
 have far:∀b,b<Bt->b≠gv->b≠gh->b≠ob->w3.1[b]?=wr.1[b]?:=λb q1 q2 V J_=>G (hK.5 b q1 q2 V) (p.far O J_);have j:∀(t:N)(v:Uj)(l:Ub)(b:N),b≠ob->(Se l (A ob t) v).1[b]?=l.1[b]?:=λt v l b q=>cY q;have i:∀b,b≠ob->(Se (Se (Se (Se (Se w3 (A ob 0) (H 3)) (A ob 1) (H 0)) (A ob 2) (H (k+1:N))) (A ob 3) (X g e f)) (A ob 4) (Hl gh 32 ch)).1[b]?=w3.1[b]?:=λb q=>by rw[j _ _ _ _ q,j _ _ _ _ q,j _ _ _ _ q,j _ _ _ _ q,j _ _ _ _ q]
 refine⟨?_,?_,u,x,y,r,?_,?_,⟨d.1.keep<|i _ O,d.2.keep<|i _ O,Vay d.3 λb o=>i b λe2=>F (by rw[o,e2]),d.4,d.5,d.6⟩,?_,B,z,L,C,M,O,P⟩;·exact(((((T.setCell (by show Z w.1<=ob;omega) _).setCell (by show Z w.1<=ob;omega) _).setCell (by show Z w.1<=ob;omega) _).setCell (by show Z w.1<=ob;omega) _).setCell (by show Z w.1<=ob;omega) _)
 .exact h.2.keep<|G (i _ O) (far _ O O O O)
 .exact h.7.keep<|G (i _ O) (far _ O O O O)
 .exact(K.keep<|hK.5 ob r O O).five 3 0 (k+1:N) g e f
 simp only[Xd];omega
theorem Va2.drew(h:Va2 xs args fuel R0 w a n c m ob gh ch Bt s k gv ta nt ct wr):Va2 xs args fuel R0 w a n c m ob gh ch Bt s k gv ta nt ct wr.drew :=
 ⟨h.1.drew,h.2.keep R,h.3,h.4,h.5,h.6,h.7.keep R,h.8.keep R,h.9.drew,h.10,h.11,h.sb,h.vl,h.hl,h.tl,h.kf,h.17⟩
theorem Va2.give(h:Va2 xs args fuel R0 w a n c m ob gh ch Bt s k gv ta nt ct wr)(d:Kb (Z wr.1) (Z w.1+1) ob wr W)(g value:I)(i:N):Sw (Z w.1) w W/\Vb2 W (Z w.1) (Z W.1) (Sa #[H g,H value,H i,X ta nt ct,Hl gh 32 ch]) ⟨g,value,i,s.6,s.5⟩:=by have r:=h.3;have t:=h.4;have u:=h.5;have v:=h.6;have x:=h.10;have z:=h.1.4;have y:=d.4;have j:=h.9.2.lt;have far:∀b,b<Z wr.1->b≠Z w.1+1->b≠ob->W.1[b]?=wr.1[b]?:=λb q1 q2 p=>d.5 b q1 q2 p;have f:∀b,(X ta nt ct).ownBlock=S b->Bt<=b/\b<Z wr.1:=λb e=>h.9.3.lt _ e;have o:=Vay (w1:=W) h.9.3 (λb e=>far b (f b e).2 (by have:=f b e;omega) (by have:=f b e;omega));obtain⟨q,c1,e1,l⟩:=Xk o;obtain⟨e2,e3,e4⟩:=Z5 e1;subst e2;refine⟨h.1.trans<|d.below O O O,ta,nt,ct,_,32,ch,R,e3,h.hl.symm,l.mono O<|aA,?_⟩;exact(h.9.2.keep<|far _ j O O).at ⟨O,O⟩
end
end
theorem Vb8{x:Uy}{b:List ag}(ha:Q (d7 w i j p b))(v:Q (n=J b))(u:Q (J b+VaJ b<=16777216))(y:j<=Z w.1)(bad:VaB t b=Sn\/VaX m B T=Sn):
 Sk prog 16 #[Sa #[H t,X p n c],X P m k,X x B g,H T] w
  λe r=>∃val,e=Rt val/\Sw (Z w.1) w r/\Vb2 r (Z w.1) (Z r.1) val ⟨4,0,0,[],[]⟩:=by
 have s:=λC F=>Y<|ha.keep ((Xb (Xb (dC (Z w.1) w) C) F).mono y);cases hvd:VaB t b
 .clear bad
  go_in
  go_wp2_with (go_at_call 24;refine YU (Va4 (s _ _) v u SB) λK a=>?_;rw[hvd];have d:=Y<|Xg (Xb (Xb (dC (Z w.1) w) _) _) a;obtain⟨-,⟨f,h,l,o,q⟩,rz⟩:=VbI<|a.mono sP;clear a)
  exact YL (v:=Sa #[H 4,H 0,H 0,Hq,Hq]) ⟨_,R,(((((d.setCell (by show Z w.1<=Z w.1+1;omega) _).setCell (by show Z w.1<=Z w.1+1;omega) _).setCell (by show Z w.1<=Z w.1+1;omega) _).setCell (by show Z w.1<=Z w.1+1;omega) _).setCell (by show Z w.1<=Z w.1+1;omega) _),U,0,0,U,0,0,R,R,R,Xf.nil _ _ _ _,Xf.nil _ _ _ _⟩
 rw[hvd]at bad;have z:VaX m B T=Sn:=by simpa using bad
 clear bad
 go_in
 go_wp2_with (first|(go_at_call 24;refine YU (Va4 (s _ _) v u SB) λK a=>?_;rw[hvd];have d:=Y<|Xg (Xb (Xb (dC (Z w.1) w) _) _) a;obtain⟨-,⟨f,h,l,o,q⟩,rz⟩:=VbI<|a.mono sP;clear a)|(go_at_call 25;refine YU Vbr ?_;rintro L rfl;rw[z];simp only[Bool.not_false]))
 exact YL (v:=Sa #[H 4,H 0,H 0,Hq,Hq]) ⟨_,R,(((((d.setCell (by show Z w.1<=Z w.1+1;omega) _).setCell (by show Z w.1<=Z w.1+1;omega) _).setCell (by show Z w.1<=Z w.1+1;omega) _).setCell (by show Z w.1<=Z w.1+1;omega) _).setCell (by show Z w.1<=Z w.1+1;omega) _),U,0,0,U,0,0,R,R,R,Xf.nil _ _ _ _,Xf.nil _ _ _ _⟩
theorem Vcy(q:Uy)(n c:N)(b:Wc)(L B:N)(w:Ub)(ha:Q (Xf w L B q b))(m:Q (n=J b))(K:n<=1048576)(C:B<=Z w.1):
 Sk prog 6 #[X q n c] w λe g=>∃x,e=Rt (Hl (Z w.1) n x)/\Sw (Z w.1) w g/\Xf g (Z w.1) (Z g.1) (S ⟨Z w.1,0,U⟩) b/\ij (Z w.1) g:=by
 have M:=fM (P:=prog) 23 2 (H 0) 8 underlying23 RH R S6 S6 n O O
 go_in
 go_wp2
 go_loopw [4] (λp wr=>∃k:N,k<=n/\p=H k/\Sw (Z w.1) w wr/\Q (ij (Z w.1) wr)/\Q (∃f,wr.rowIs (Z w.1) 2 n f/\∀j (r:j<J b),j<k->f j=H b[j])) λp _=>n-(JB p).toNat
 .exact⟨0,aN,R,Xb Rf _,(ij.start _).alloc _ _,⟨_,dG _ _ _ _,λj _ r=>Sz r O⟩⟩
 obtain⟨k,F,rfl,l,t,h⟩:=hrel;by_cases z:k<n
 .have y:k<J b:=by have:=m.o;omega
  obtain⟨P,o,rfl,⟨_,T⟩,s⟩:=ha.o k y;have e1:=G (XU l O) s;obtain⟨f,a,d⟩:=h.o;have e2:=a.cell z;have e3:=a.frozen k;have u:=Y d;have v:=Y a;clear s h d a;go_wp2;refine⟨⟨k+1,O,gM,l.setCell (aA) _,t.setCell _ _,⟨_,v.set k _,λj i V=>?_⟩⟩,SA⟩;by_cases e:j=k;·subst e;simp
  simp only[e,fD];exact u.o j i O
 go_wp2;go_ret;obtain⟨f,a,d⟩:=h.o;refine⟨_,R,l,λj i=>⟨Z w.1,0,R,⟨aA,a.lt⟩,?_⟩,t.o⟩;rw[aV,a.cell (by have:=m.o;omega),d j i (by have:=m.o;omega)]
theorem VaA.ntM{b:Wc}(h:VaA w n m k B (X p g i) l L b):g=J b:=by
 obtain⟨_,⟨a,c⟩|⟨_,_,_,a,_⟩⟩:=h.3;·have:=(Z5 a).2.1;omega
 exact(Z5 a).2.1
theorem Vb0{P:Vy}(a:Ub)(h:∀W,W=a->P W):P a:=h a R
theorem Vcz{hA:Uy}{b:List ag}{args:Wc}{bf af:N}(ha:Q (d7 w bf af p b))(hx:Q (m=J b))(hs:Q (J b+VaJ b<=16777216))(hB:af<=Z w.1)(cw:Q (Xf w bf af P args))(dd:Q (k=J args))(c8:Q (Xf w bf af hA l))(df:Q (g=J l))(b8:VaB n b=So)(ok:VaX k g j=So)(ei:n<=64)(ej:1<=m)(ek:m<=3000)(hf:j<=60000):
 Sk prog 16 #[Sa #[H n,X p m c],X P k B,X hA g i,H j] w
  λh w'=>∃val,h=Rt val/\Sw (Z w.1) w w'/\Vb2 w' (Z w.1) (Z w'.1) val (VaM b args j 0<|Vav n l):=by
 have HA:=λx V_=>Y<|ha.keep ((Xb (Xb (dC (Z w.1) w) x) V_).mono hB);have GV:=Y b8;clear b8;have dc:=fM (P:=prog) 23 2 (H 0) 8 underlying23 RH R S6 S6 n O O;generalize cq:VaM b args j 0 (Vav n l)=R0
 go_in
 go_wp2_with (first|(go_at_call 24;refine YU (Va4 (HA _ _) hx hs SB) λw1 a7=>?_;rw[GV.o];have bd:=Y<|Xg (Xb (Xb (dC (Z w.1) w) _) _) a7;obtain⟨bc,b7⟩:=VbI<|a7.mono sP;have bv:=Y bc;have b6:=Y b7;have z1:=bc.1;have ci:=a7.4;simp at ci;clear bc b7 a7)|(go_at_call 25;refine YU Vbr ?_;rintro O_ rfl;rw[ok];simp only[Bool.not_true])|(go_at_call 26;refine(Vcx (Y<|c8.keep (bd.mono hB)) df O).mono ?_;rintro h O_⟨y,C,rfl,a8,c6,bn⟩;have a5:=Y a8;have b5:=Y bn;have dk:=a8.4;have cb:=bn.lt;have z2:=λx=>G ((Xb (dC (Z O_.1) O_) x).cell (p:=A (Z w.1) 0) (by show Z w.1<_;omega)) (G (XU a8 O) z1);clear a8 bn))
 have dj:Z w.1+1<Z O_.1:=O;have c7:Z w.1+1<y:=O;have HS:∀N_,Va2 b args j R0 w p m c n (Z O_.1) y C (Z O_.1+1+1) (Vav n l) 0 (Z O_.1+1) U 0 0 (D (D O_<|Sc #[H 3,H 0,H 0,Hq,Hl y 32 C] N_) (Sc (madeCells #[H 0] n) 2)):=λN_=>by
  have cg:=dG (D O_<|Sc #[H 3,H 0,H 0,Hq,Hl y 32 C] N_) (H 0) n 2;rw[aO]at cg;refine⟨Xb (Xb (Xg bd.o a5.o) _) _,bv.keep<|(Xb (Xb a5.o _) _).5 _ O,dj,c7,cb,O,b6.keep<|(Xb (Xb a5.o _) _).5 _ O,⟨⟨SC,SC,SC,SC,SC⟩,λo_=>by simp[go_sem]⟩,
   ⟨VaC.of_row cg (by simp[Vav]) λen hi=>by simp[Vav],b5.keep<|(Xb (Xb (dC (Z O_.1) O_) _) _).5 _ cb,dA,O,by simp[Value.ownBlock],by simp[Value.ownBlock]⟩,sP,O,by show 0<m;omega,by simp[Vav],by simp[Vav,Va5],aA,aN,by rw[Nat.sub_zero];exact cq⟩
 generalize cp:Z O_.1=a at*
 go_loopw [10,11,12,13] (λuv us ub ua wr=>∃(s:Vae)(d f Q_:N)(t:Uy)(r q:N),uv=Hl f n Q_/\us=H s.4/\ub=H s.b/\ua=H s.2/\Q (Va2 b args j R0 w p m c n a y C (a+1+1) s d f t r q wr)) λ_ _ _ _ wr=>j-(JB<|(E wr (A a 2)).getD Su).toNat
 .exact⟨Vav n l,0,_,_,_,_,_,R,R,R,R,HS _⟩
 clear HS dc z1 z2 ci dk c6 cp;obtain⟨s,d,f,Q_,t,r,q,rfl,rfl,rfl,rfl,hinv⟩:=hrel;obtain⟨⟨y0,y1,y2,y3,y4⟩,yz⟩:=hinv.8;obtain⟨⟨r0,r1,r2,r3,r4⟩,rz⟩:=hinv.7;obtain⟨f0,f1⟩:=hinv.2;have eg:=hinv.kf;have a2:=hinv.sb;have ed:=hinv.11;have ec:=hinv.10;have co:af<=Z wr.1:=by have:=hinv.1.4;omega
 have n1:Z w.1+1≠a:=O;have n2:a≠Z w.1+1:=O;have n3:Z w.1≠a:=O;have n4:a≠Z w.1:=O;by_cases hk:d<j;rotate_left
 .have db:d=j:=O;subst db;have hR:R0=⟨3,0,d,s.6,s.5⟩:=by have:=hinv.17;rw[kL]at this;exact this.symm
  subst hR;have HG:=Y<|hinv.give (((((((Kb.refl (Z wr.1) (Z w.1+1) a wr).set (o:=0) (bC R) (H 3)).set (o:=1) (bC R) (H 0)).set (o:=2) (bC R) (H d)).set (o:=3) (bC R) (X t r q)).set (o:=4) (bC R) (Hl y 32 C))) 3 0 d;go_wp2;exact YL (v:=Sa #[H 3,H 0,H d,X t r q,Hl y 32 C]) ⟨_,R,HG.o⟩
 have bb:s.b<J b:=by have:=hx.o;omega
 have ce:a<Z wr.1:=O;obtain⟨a6,o_,rfl,⟨_,cx⟩,hc⟩:=ha.o s.b bb;have em:=hinv.1.4;have BO:=Vcw GV.o bb;have e:=hinv.17;rw[Vce hk]at e;have hX:b[s.b]=Vdg b s.b:=(Vba bb).symm;have ee:J (Vdg b s.b).1<=16777216:=by rw[<-hX];have:=Vbw<|aH bb;have:=hs.o;omega
 rw[hX]at hc;obtain⟨ia,ic,e1,⟨t0,t1,t2,t3⟩,hi⟩:=hc.keep (hinv.1.mono hB) cx;have g1:=Vdn (ob:=a) f1 n3;have E1:=Vdn (ob:=a) e1 O;have T0:=Vdn (ob:=a) t0 O;have T1:=Vdn (ob:=a) t1 O;have T2:=Vdn (ob:=a) t2 O;have T3:=Vdn (ob:=a) t3 O;by_cases ba:s.2<J (Vdg b s.b).1
 .obtain⟨b3,o3,rfl,⟨_,eb⟩,i0,i1,i2,i3,i4⟩:=hi s.2 ba;have a9:=BO.2 s.2 ba;have I0:=Vdo (ob:=a) i0 O O;have I1:=Vdo (ob:=a) i1 O O;have I2:=Vdo (ob:=a) i2 O O;have I3:=Vdo (ob:=a) i3 O O;have I4:=Vdo (ob:=a) i4 O O;rw[Vau,dif_pos ba]at e;clear BO hX t0 t1 t2 t3 e1 i0 i1 i2 i3 i4 hi hc;have OX:=λM_ x V_=>Vdl hinv.8 ce M_ x V_;have KX:=λM_ x V_=>Vdc (wr:=wr) (ob:=a) M_ x V_;have KR:=λM_ x V_=>Vde (wr:=wr) (ob:=a) (Z w.1+1) M_ x V_;have SZ:∀a4 x V_,Z (D (D (Se wr (A a 2) a4) x) V_).1=Z wr.1+1+1:=λa4 x V_=>sP;generalize Vdg b s.b=cn at*;generalize cn.1[s.2]=xi at*;obtain⟨F,J_,M,xb,K_⟩:=xi;dsimp only at*;have bm:=hinv.9.1.lt;have ab:=hinv.vl
  go_upto_region 14 with fail
  refine Vb0 (P:=Code.wp _ _ _ _) _ ?_;intro W v;have ar:Vah W a 3 0 (d+1:N) t r q y C:=by rw[v];exact OX _ _ _
  have T:Kb (Z wr.1) a a wr W:=by rw[v];exact KX _ _ _
  have bi:Kb (Z wr.1) (Z w.1+1) a wr W:=by rw[v];exact KR _ _ _
  have cr:Z W.1=Z wr.1+1+1:=by rw[v];exact SZ _ _ _
  have x0:E W (A (Z wr.1+1) 0)=S (H F):=by rw[v];simp[go_sem]
  have x1:E W (A (Z wr.1+1) 1)=S (H J_):=by rw[v];simp[go_sem]
  have x2:E W (A (Z wr.1+1) 2)=S (H M):=by rw[v];simp[go_sem]
  have x3:E W (A (Z wr.1+1) 3)=S (H xb):=by rw[v];simp[go_sem]
  have x4:E W (A (Z wr.1+1) 4)=S (H K_):=by rw[v];simp[go_sem]
  clear v OX KX KR SZ y0 y1 y2 y3 y4 yz r0 r1 r2 r3 r4 rz f0 f1 g1 E1 T0 T1 T2 T3 I0 I1 I2 I3 I4;have Y_:=Y ar;obtain⟨⟨y0,y1,y2,y3,y4⟩,yz⟩:=ar;obtain⟨⟨r0,r1,r2,r3,r4⟩,rz⟩:=hinv.7.keep<|T.far (b:=Z w.1+1) O n1;have V:=Y<|hinv.9.1.keep (T.far bm O);have z:=hinv.9;have ac:Q (VaA W (a+1+1) f y 2 (X t r q) s.3 s.5 s.6):=Y ⟨V.o,z.2.keep<|T.far z.2.lt O,Vay z.3 (λM_ h=>T.far (z.3.lt _ h).2 (by have:=(z.3.lt _ h).1;omega)),z.4,z.5,z.6⟩;clear z;have dl:=hinv.tl;have cf:a≠f:=O;by_cases aj:F=11
  .subst aj;obtain⟨-,fd,fa,-⟩:=VaR a9;obtain⟨d0,d1⟩:=fd (by show dB 11=So;decide);obtain⟨Z_,a1⟩:=fa (by show aB 11=So;decide);obtain⟨o,rfl⟩:=bX d0;obtain⟨K,rfl⟩:=bX Z_;have aq:o<J s.3:=by dsimp only at d1;omega
   have ap:K<J s.3:=by dsimp only at a1;omega
   simp only[Va1,aU]at e;have e1:VaF s.3 o (Vc4 s.3 K)=s.3.set o s.3[K]:=by rw[Vax ap];simp[VaF]
   rw[e1]at e;have VD:=V.2 o aq;have VZ:=V.frozen o;have VA:=V.2 K ap;have u:Q (Va2 b args j R0 w (S ⟨a6,o_,U⟩) m c n a y C (a+1+1) ⟨s.b,s.2+1,s.3.set o s.3[K],s.4,s.5,s.6⟩ (d+1) f t r q (Se W (A f o) (H s.3[K])).drew):=Y (hinv.step (s':=⟨s.b,s.2+1,s.3.set o s.3[K],s.4,s.5,s.6⟩) (w3:=Se W (A f o) (H s.3[K])) hk T ((Kb.refl _ _ _ W).set (bC R) _) (ac.setV aq _) (Y_.keep<|cY cf) a2 (by rw[bL];exact ab) hinv.hl O e).drew;have X_:=Y u.8.1.2.2.1;have eo:Z wr.1+1≠f:=O;have ep:f≠Z wr.1+1:=O;have cs:E (Se W (A f o) (H s.3[K])) (A f K)=S (H s.3[K]):=by
    by_cases h:K=o
    .subst h;exact iL _ _ _<|by simp[VD]
    exact G (cJ<|by intro e2;injection e2 with _ e3;omega) VA
   generalize s.3.set o s.3[K]=RG at*;generalize s.3[K]=T_ at*;generalize s.3[o]=VL at*;clear e e1;go_wp2
   go_region_held3 (λw'=>E w' (A (Z wr.1+1) 1)=S (H o)/\E w' (A (Z wr.1+1) 2)=S (H K)/\E w' (A f K)=S (H T_)) (go_keep) (fail)
   go_wp2;exact⟨⟨⟨s.b,s.2+1,RG,s.4,s.5,s.6⟩,d+1,f,Q_,t,r,q,R,R,R,gM,u⟩,by rw[X_.o,hinv.8.1.2.2.1];simp[JB];omega⟩
  by_cases al:F=12
  .subst al;obtain⟨-,-,fa,-⟩:=VaR a9;obtain⟨Z_,a1⟩:=fa (by show aB 12=So;decide);obtain⟨K,rfl⟩:=bX Z_;have ap:K<J s.3:=by dsimp only at a1;omega
   simp only[Va1]at e;rw[aM vY,aU vY,Vax ap]at e;dsimp only at e;have VA:=V.2 K ap;have u:Q (Va2 b args j R0 w (S ⟨a6,o_,U⟩) m c n a y C (a+1+1) ⟨s.b,s.2+1,s.3,s.3[K],s.5,s.6⟩ (d+1) f t r q W):=Y<|hinv.step hk T (Kb.refl _ _ _ W) ac.o Y_.o a2 ab hinv.hl O e;have X_:=Y u.8.1.2.2.1;generalize s.3[K]=T_ at*;clear e;go_wp2;exact⟨⟨⟨s.b,s.2+1,s.3,T_,s.5,s.6⟩,d+1,f,Q_,t,r,q,R,R,R,gM,u⟩,by rw[X_.o,hinv.8.1.2.2.1];simp[JB];omega⟩
  by_cases ao:F=13
  .subst ao;obtain⟨-,fd,-,-⟩:=VaR a9;obtain⟨d0,d1⟩:=fd (by show dB 13=So;decide);obtain⟨o,rfl⟩:=bX d0;have aq:o<J s.3:=by dsimp only at d1;omega
   simp only[Va1]at e;rw[aM vY,aM vY,aU vY,show VaF s.3 o s.4=s.3.set o s.4 by simp[VaF]]at e;dsimp only at e;have VD:=V.2 o aq;have VZ:=V.frozen o;have u:Q (Va2 b args j R0 w (S ⟨a6,o_,U⟩) m c n a y C (a+1+1) ⟨s.b,s.2+1,s.3.set o s.4,s.4,s.5,s.6⟩ (d+1) f t r q (Se W (A f o) (H s.4))):=Y (hinv.step hk T ((Kb.refl _ _ _ W).set (bC R) _) (ac.setV aq _) (Y_.keep<|cY cf) a2 (by rw[bL];exact ab) hinv.hl O e);have X_:=Y u.8.1.2.2.1;generalize s.3.set o s.4=RG at*;generalize s.3[o]=VL at*;clear e;go_wp2;exact⟨⟨⟨s.b,s.2+1,RG,s.4,s.5,s.6⟩,d+1,f,Q_,t,r,q,R,R,R,gM,u⟩,by rw[X_.o,hinv.8.1.2.2.1];simp[JB];omega⟩
  have bo:=Vbi a9 aj al ao;have dw:(F==11)=Sn:=by simp[aj]
  have dz:(F==12)=Sn:=by simp[al]
  have ea:(F==13)=Sn:=by simp[ao]
  simp only[Va1]at e;rw[aM aj,aM al,aM ao]at e;clear aj al ao;by_cases a3:F=6/\Vc4 s.3 xb=0
  .rw[aU a3]at e;dsimp only at e;subst e;obtain⟨rfl,R_⟩:=a3;obtain⟨b0,b1⟩:=(VaU bo).2.2.2.1 (by show bB 6=So;decide);obtain⟨L,rfl⟩:=bX b0;have az:L<J s.3:=by dsimp only at b1;omega
   rw[Vax az]at R_;have VB:=V.2 L az;rw[R_]at VB;have HG:=Y<|hinv.give ((bi.set (o:=0) (aZ R) (H 2)).five (H 2) (H 0) (H (d+1:N)) (X t r q) (Hl y 32 C)) 2 0 (d+1);rw[show((d+1:N):I)=(d:I)+1 from R]at HG;go_wp2;exact YL (v:=Sa #[H 2,H 0,H (d+1),X t r q,Hl y 32 C]) ⟨_,R,HG.o⟩
  rw[aM a3]at e
  dsimp only at e;have ad:=Y e;have cm:=Y<|cw.keep ((hinv.1.mono hB).trans (T.below co O O));have bl:=(VcV Q_ B 3 0 (d+1) C ac O (Y ab.symm) (Y hinv.hl) cm dd O O bo λh I_=>a3 ⟨h,I_⟩);dsimp only at bl;have HC:=Y bl;have cd:=Y hinv.9.ntM;clear e bl;have cz:(F=6/\Vc4 s.3 xb≠0)\/(F==6)=Sn:=by
   by_cases h:F=6;·exact bC ⟨h,λI_=>a3 ⟨h,I_⟩⟩
   exact aZ<|by simp[h]
  have z1:=y0;obtain⟨rfl,R_⟩|h6:=cz
  .obtain⟨b0,b1⟩:=(VaU bo).2.2.2.1 (by show bB 6=So;decide);obtain⟨L,rfl⟩:=bX b0;have az:L<J s.3:=by dsimp only at b1;omega
   have VB:=V.2 L az;rw[Vax az]at R_;have dt:(s.3[L]==0)=Sn:=by simp[R_]
   generalize s.3[L]=T_ at*;go_wp2_with (go_at_call 27;refine HC.mono ?_;rintro h w3⟨br,bq,bh,rfl,hK,hM⟩;obtain⟨⟨p0,p1,p2,p3,p4⟩,pz⟩:=Y_.keep<|hK.5 a O O O;have HK:=Y hK;have HM:=Y hM;clear hK hM)
   have di:=HM.ntM;have dn:=Vbd ⟨6,J_,M,L,K_⟩ s.3 s.6;have u:=hinv.next (s':=⟨s.b,s.2+1,VaH ⟨6,J_,M,L,K_⟩ args s.3 s.5,s.4,VaI ⟨6,J_,M,L,K_⟩ s.3 s.5,VaT ⟨6,J_,M,L,K_⟩ s.3 s.6⟩) hk T HK.o HM.o Y_.o a2 (by show J (VaH ⟨6,J_,M,L,K_⟩ args s.3 s.5)=n;rw[Vbk];exact ab) (by show J (VaI ⟨6,J_,M,L,K_⟩ s.3 s.5)=32;rw[Vbb];exact hinv.hl) (by have:=cd.o;omega) ad.o;have c1:=u.8.1.2.2.1;rw[show((d+1:N):I)=(d:I)+1 from R]at u c1;exact⟨⟨⟨s.b,s.2+1,_,s.4,_,_⟩,d+1,f,Q_,br,bq,bh,R,R,R,gM,u⟩,by rw[c1,hinv.8.1.2.2.1];simp[JB];omega⟩
  go_wp2_with (go_at_call 27;refine HC.mono ?_;rintro h w3⟨br,bq,bh,rfl,hK,hM⟩;obtain⟨⟨p0,p1,p2,p3,p4⟩,pz⟩:=Y_.keep<|hK.5 a O O O;have HK:=Y hK;have HM:=Y hM;clear hK hM)
  have di:=HM.ntM;have dn:=Vbd ⟨F,J_,M,xb,K_⟩ s.3 s.6;have u:=hinv.next (s':=⟨s.b,s.2+1,VaH ⟨F,J_,M,xb,K_⟩ args s.3 s.5,s.4,VaI ⟨F,J_,M,xb,K_⟩ s.3 s.5,VaT ⟨F,J_,M,xb,K_⟩ s.3 s.6⟩) hk T HK.o HM.o Y_.o a2 (by show J (VaH ⟨F,J_,M,xb,K_⟩ args s.3 s.5)=n;rw[Vbk];exact ab) (by show J (VaI ⟨F,J_,M,xb,K_⟩ s.3 s.5)=32;rw[Vbb];exact hinv.hl) (by have:=cd.o;omega) ad.o;have c1:=u.8.1.2.2.1;rw[show((d+1:N):I)=(d:I)+1 from R]at u c1;exact⟨⟨⟨s.b,s.2+1,_,s.4,_,_⟩,d+1,f,Q_,br,bq,bh,R,R,R,gM,u⟩,by rw[c1,hinv.8.1.2.2.1];simp[JB];omega⟩
 rw[Vau,dif_neg ba]at e;have ef:=VbT BO;have cj:(Vdg b s.b).2.1≠1->0<=(Vdg b s.b).2.a/\(Vdg b s.b).2.a<n:=λI_=>VbM BO I_;have cc:(Vdg b s.b).2.1≠3->0<=Vc5 (Vdg b s.b) s.3/\Vc5 (Vdg b s.b) s.3<J b:=λI_=>VcM BO I_ s.3;have ca:Vc5 (Vdg b s.b) s.3=if (Vdg b s.b).2.1=2/\Vc4 s.3 (Vdg b s.b).2.a=0 then (Vdg b s.b).2.4 else (Vdg b s.b).2.3:=R
 generalize hG:Vc5 (Vdg b s.b) s.3=cl at*;clear hG BO hX t0 t1 t2 t3 e1 hi hc;generalize c9:J (Vdg b s.b).1=il at*;generalize (Vdg b s.b).2.1=kd at*;generalize (Vdg b s.b).2.a=M at*;generalize (Vdg b s.b).2.3=bt at*;generalize (Vdg b s.b).2.4=ck at*;have OX:=λM_ x=>Vdk hinv.8 ce M_ x;have KX:=λM_ x=>Vdb (wr:=wr) (ob:=a) M_ x;have KR:=λM_ x=>Vdd (wr:=wr) (ob:=a) (Z w.1+1) M_ x;have SZ:∀a4 x,Z (D (Se wr (A a 2) a4) x).1=Z wr.1+1:=λa4 x=>sP;have bm:=hinv.9.1.lt;have ab:=hinv.vl;have ad:=Y e;have b4:=Y cc;have be:=Y cj;have bx:=Y ca;clear e cc cj ca c9
 go_upto_region 24 with fail
 refine Vb0 (P:=Code.wp _ _ _ _) _ ?_;intro W v;have ar:Vah W a 3 0 (d+1:N) t r q y C:=by rw[v];exact OX _ _
 have T:Kb (Z wr.1) a a wr W:=by rw[v];exact KX _ _
 have bi:Kb (Z wr.1) (Z w.1+1) a wr W:=by rw[v];exact KR _ _
 have cr:Z W.1=Z wr.1+1:=by rw[v];exact SZ _ _
 have x0:E W (A (Z wr.1) 1)=S (H kd):=by rw[v];simp[go_sem]
 have x1:E W (A (Z wr.1) 2)=S (H M):=by rw[v];simp[go_sem]
 have x2:E W (A (Z wr.1) 3)=S (H bt):=by rw[v];simp[go_sem]
 have x3:E W (A (Z wr.1) 4)=S (H ck):=by rw[v];simp[go_sem]
 clear v OX KX KR SZ y0 y1 y2 y3 y4 yz r0 r1 r2 r3 r4 rz f0 f1 g1 E1 T0 T1 T2 T3;have Y_:=Y ar;obtain⟨⟨y0,y1,y2,y3,y4⟩,yz⟩:=ar;obtain⟨⟨r0,r1,r2,r3,r4⟩,rz⟩:=hinv.7.keep<|T.far (b:=Z w.1+1) O n1;have V:=Y<|hinv.9.1.keep (T.far bm O);by_cases bp:kd=3
 .subst bp;obtain⟨Z_,a1⟩:=be.o vY;obtain⟨S_,rfl⟩:=bX Z_;have aa:S_<J s.3:=O;have VA:=V.2 S_ aa;have U_:=ad.o;rw[aU R]at U_;dsimp only at U_;rw[Vax aa]at U_;generalize s.3[S_]=T_ at*;subst U_;have HG:=Y<|hinv.give (((bi.set (o:=0) (aZ R) (H 1)).set (o:=1) (aZ R) (H T_)).five (H 1) (H T_) (H (d+1:N)) (X t r q) (Hl y 32 C)) 1 T_ (d+1);rw[show((d+1:N):I)=(d:I)+1 from R]at HG;go_wp2;exact YL (v:=Sa #[H 1,H T_,H (d+1),X t r q,Hl y 32 C]) ⟨_,R,HG.o⟩
 obtain⟨g0,g1⟩:=b4.o bp;obtain⟨N_,rfl⟩:=bX (show 0<=cl by omega);have U_:=ad.o;rw[aM bp,dM]at U_;dsimp only at U_;have el:N_<J b:=O;have z:=hinv.9;have ac:Q (VaA W (a+1+1) f y 2 (X t r q) s.3 s.5 s.6):=Y ⟨V.o,z.2.keep<|T.far z.2.lt O,Vay z.3 (λM_ h=>T.far (z.3.lt _ h).2 (by have:=(z.3.lt _ h).1;omega)),z.4,z.5,z.6⟩;have dl:=hinv.tl;clear z;have du:=Y U_;obtain⟨f0,f1⟩:=hinv.2.keep<|T.far (b:=Z w.1) O n3;have ds:N_<m:=by have:=hx.o;omega
 have u:Q (Va2 b args j R0 w (S ⟨a6,o_,U⟩) m c n a y C (a+1+1) ⟨N_,0,s.3,s.4,s.5,s.6⟩ (d+1) f t r q W):=Y<|hinv.step hk T (Kb.refl _ _ _ W) ac.o Y_.o ds ab hinv.hl O U_;have X_:=Y u.8.1.2.2.1;clear U_ ad;have da:(kd=1/\bt=N_)\/(kd=2/\Vc4 s.3 M=0/\ck=N_)\/(kd=2/\Vc4 s.3 M≠0/\bt=N_):=by
  have I_:=bx.o;split at I_;·rename_i h;exact aZ<|bC ⟨h.1,h.2,I_.symm⟩
  rename_i h;by_cases e2:kd=2;·exact aZ<|aZ ⟨e2,λI_=>h ⟨e2,I_⟩,I_.symm⟩
  exact bC ⟨O,I_.symm⟩
 obtain⟨rfl,rfl⟩|⟨rfl,R_,rfl⟩|⟨rfl,R_,rfl⟩:=da
 .go_wp2;exact⟨⟨⟨N_,0,s.3,s.4,s.5,s.6⟩,d+1,f,Q_,t,r,q,R,R,R,R,u⟩,by rw[X_.o,hinv.8.1.2.2.1];simp[JB];omega⟩
 .obtain⟨Z_,a1⟩:=be.o vY;obtain⟨S_,rfl⟩:=bX Z_;have aa:S_<J s.3:=O;have VA:=V.2 S_ aa;rw[Vax aa]at R_;rw[R_]at VA;go_wp2;exact⟨⟨⟨N_,0,s.3,s.4,s.5,s.6⟩,d+1,f,Q_,t,r,q,R,R,R,R,u⟩,by rw[X_.o,hinv.8.1.2.2.1];simp[JB];omega⟩
 obtain⟨Z_,a1⟩:=be.o vY;obtain⟨S_,rfl⟩:=bX Z_;have aa:S_<J s.3:=O;have VA:=V.2 S_ aa;rw[Vax aa]at R_;have dt:(s.3[S_]==0)=Sn:=by simp[R_]
 generalize s.3[S_]=T_ at*;go_wp2;exact⟨⟨⟨N_,0,s.3,s.4,s.5,s.6⟩,d+1,f,Q_,t,r,q,R,R,R,R,u⟩,by rw[X_.o,hinv.8.1.2.2.1];simp[JB];omega⟩
theorem qr:Je s=(Xi s).map (Si S6):=by simp[Je,Xi]
theorem qS:Cg (Xi s) (n:I)=So↔n∈s:=by
 unfold Cg;rw[eY];unfold Xi;rw[aY];constructor
 .rintro⟨a,h,e⟩;have:a=n:=Int.ofNat.inj e;rw[<-this];exact h
 exact λh=>⟨n,h,R⟩
