import Derived.Test.YtcncjgijikoapaaGreatDoorSLS
namespace Go.Proofs.YtcncjgijikoapaaGreatDoor
set_option maxHeartbeats 4000000
set_option maxRecDepth 100000
open _root_ renaming Array.size->Z,List.length->J,Nat->N,Int->I,rfl->R,Option.some->S,Option.none->U,Bool.true->So,Bool.false->Sn,List.range->Rg,Decidable.decide->Jd
open Go renaming World.cell?->E,World.alloc->D,World.setCell->Se,World.ownsRow->Sx,IntKind.i64->S6,Obj.cells->Sc,Ending.returned->Rt,RowKit.Below->Sw,Calls->Sk,RowKit.intOf->JB
open Value renaming slice->X,int->Si,bool->Sb,agg->Sa
open Go.RowKit Go.Proofs.Tryz
section
structure N0(w w2 wr:Ub)(n A0 A1 M0 M1:N)(P:Tj):Prop where
 bel:Sw (Z w.1) w wr
 sz:Z w2.1<=Z wr.1
 fb:wr.1[Z w.1]?=w2.1[Z w.1]?
 same:YA A0 A1 w2 wr
 rows:∃U_,ZN wr (Z w.1+1) n P U_/\∀i g,i<n->(U_ i).ownBlock=S g->(g<A0\/A1<=g)/\(g<M0\/M1<=g)
section
variable {w w2 wr wr': Ub} {n A0 A1 M0 M1: N} {P: N -> Wc}
theorem N0.below(h:N0 w w2 wr n A0 A1 M0 M1 P)(k:Sw (Z wr.1) wr wr')(c:Z w.1<Z wr.1)(d:A1<=Z w2.1):N0 w w2 wr' n A0 A1 M0 M1 P:=by let⟨e,a,b⟩:=h.5;have:=h.2;exact⟨Xg h.1 k,aJ h.2 k.4,G (k.5 _ c) h.3,λq q1 q2=>G (k.5 q O) (h.4 q q1 q2),e,a.below k,b⟩
theorem N0.fresh(h:N0 w w2 wr n A0 A1 0 0 P)(M1):N0 w w2 wr n A0 A1 (Z wr.1) M1 P:=by let⟨d,a,c⟩:=h.5;exact⟨h.1,h.2,h.3,h.4,d,a,λi g b e=>⟨(c i g b e).1,bC ((a.2.1 i b).lt g e).2⟩⟩
theorem N0.forget(h:N0 w w2 wr n A0 A1 M0 M1 P):N0 w w2 wr n A0 A1 0 0 P:=by let⟨d,a,b⟩:=h.5;exact⟨h.1,h.2,h.3,h.4,d,a,λi g c e=>⟨(b i g c e).1,aZ<|aN⟩⟩
theorem N0.congr{P'}(h:N0 w w2 wr n A0 A1 M0 M1 P)(e:∀i,i<n->P i=P' i):N0 w w2 wr n A0 A1 M0 M1 P':=by let⟨c,a,b⟩:=h.5;exact⟨h.1,h.2,h.3,h.4,c,a.congr e,b⟩
theorem N0.grown{M}(h:N0 w w2 wr n A0 A1 M0 M1 P)(k:wr.grownBy wr' (S M))(l:M0<=M/\M<M1)(f:A1<=M0)(m:Z w.1+1<M0)(d:Z w.1+1<Z wr.1)(j:A1<=Z w2.1):N0 w w2 wr' n A0 A1 M0 M1 P:=by
 let⟨p,a,b⟩:=h.5;have o:=h.2;refine⟨h.1.grown k O (λq e=>by cases e;omega),aJ h.2 k.4,G (k.5 _ O λe=>by injection e with e;omega) h.3,λq q1 q2=>G (k.5 q O λe=>by injection e with e;omega) (h.4 q q1 q2),p,⟨a.1.of_block (k.5 _ d λe=>by injection e with e;omega),λi c=>?_,a.2.2⟩,b⟩;refine(a.2.1 i c).kept k ?_;cases e:(p i).ownBlock with
 |none=>exact bC R
 |some g=>exact aZ λe2=>by injection e2 with e2;have:=(b i g c e).2;omega
theorem N0.push{c:Ub}{o t x}{b:Uj}{K}(h:N0 w w2 wr n A0 A1 M0 M1 P)(d:ZN wr (Z w.1+1) n P K)(j:∀i g,i<n->(K i).ownBlock=S g->(g<A0\/A1<=g)/\(g<M0\/M1<=g))(f:t<n)(a:(D wr o).grownBy c (K t).ownBlock)(L:Sx c (Z w.1+1+1) 2 1 b (J (P t)+1) ((P t).map (Si S6)++[Si S6 x]))(s:b.ownBlock=(K t).ownBlock\/b.ownBlock=S (Z wr.1+1))(F:A1<=Z w2.1)(V:M1<=Z wr.1)(W:Z w.1+1<A0)(I_:Z w.1+1<M0):
 N0 w w2 (Se c ⟨Z w.1+1,t,U⟩ b) n A0 A1 M0 M1 (λi=>if i=t then P t++[x]else P i)/\YA M0 M1 wr (Se c ⟨Z w.1+1,t,U⟩ b)/\E c ⟨Z w.1+1,t,U⟩=S (K t)/\c.frozen? ⟨Z w.1+1,t,U⟩=Sn:=by
 have K_:=h.2;have B:=d.1.lt;have J_:=a.4;have C:Z (D wr o).1=Z wr.1+1:=aO _ _;have r:∀k,k<Z wr.1->(D wr o).1[k]?=wr.1[k]?:=λk m=>gF _ _ _ m;have M:=(d.alloc o).step f x b a L (by rw[C];exact s);have l:∀k,k<Z wr.1->k≠Z w.1+1->S k≠(K t).ownBlock->(Se c (A (Z w.1+1) t) b).1[k]?=wr.1[k]?:=λk y z T=>G (cY z) (G (a.5 k O T) (r k y));have p:∀k,k<=Z w.1+1->S k≠(K t).ownBlock:=λk m e=>by have:=((d.2.1 t f).lt k e.symm).1;omega
 have u:=G (a.5 _ O<|p _ aA) (r _ B);refine⟨⟨?_,SF,G (l _ O O<|p _ O) h.3,λq q1 q2=>G (l q O O λe=>by have:=(j t q f e.symm).1;omega) (h.4 q q1 q2),_,M,λi g v e=>?_⟩,λq q1 q2=>l q O O (λe=>by have:=(j t q f e.symm).2;omega),G (Xc u) (d.1.cell f),G (bJ u) (d.1.frozen t)⟩;·exact⟨G a.1 h.1.1,G a.2 h.1.2,G a.3 h.1.3,SF,λk m=>G (l k O O<|p k O) (h.1.5 k m)⟩
 by_cases e1:i=t
 .subst e1;simp only[gG]at e;obtain q|q:=s;·exact j i g v<|by rw[<-q];exact e
  rw[q]at e;have:=gQ e;omega
 simp only[e1,fD]at e;exact j i g v e
end
theorem Di(Z_){R_ n}(c_){d ch a3 w}(ha:Q (Xp w ch a3 R_ d))(l:Q (n=J d))(hB:a3<=Z w.1)(W_:Q (UF d)):
 Sk prog 67 #[Sa #[H Z_,X R_ n c_]] w λe L=>∃a' c',e=Rt (X a' n c')/\Sw (Z w.1) w L/\XR L (Z w.1) (Z L.1) a' ((Rg n).map λb:N=>Xi<|Zq (X8 d) n b):=by
 have ar:n<=1000:=oP W_.2 l.o;have cr:0<n:=oP W_.1 l.o;have N_:Q (∀x,Re (X8 d) x->x<n):=Y (by rw[l.o];exact W_.re);have be:=Y (λcj (hb:Sw (Z w.1) w cj) z=>qt Z_ c_ z (Y<|ha.keep (hb.mono hB)) l ar cr (oN hb.4) (Y<|by rw[l.o];exact W_.3));have cq:=J9 (P:=prog) 58 61 (Sa #[Hq]) 1 24 underlying58 QQ n O O;have b0:madeCells (Sa #[Hq]).cells (n*1)=madeCells #[Hq] n:=by rw[iN];rfl
 rw[b0]at cq;have dj:=fM (P:=prog) 159 4 (Sb Sn) 1 underlying159 Q7 R S6 S6 n O O;clear b0
 go_in
 go_wp2_with fail
 refine(be _ (Xb (Xb Rf _) _) (-1)).mono ?_;rintro e w2⟨v2,F,rfl,r,b1,az,bv⟩;obtain⟨a2,c2,rfl,br⟩:=Xk (xs:=Xi F) (by rw[<-qr];exact b1);have C:=Y λx=>(bv x).trans (rf vY);have ca:=Y az;have cp:J (Xi F)<=1000:=by rw[Y0];exact aJ (YS az λx l=>N_ x<|(C x).1 l) ar
 have dl:Z w.1+2<=Z w2.1:=by have:=r.4;simp at this;omega
 have bb:Q (Xf w2 (Z w.1+2) (Z w2.1) a2 (Xi F)):=Y (by simpa using br);have a6:Q (N0 w w2 w2 n (Z w.1+2) (Z w2.1) 0 0 (UN (X8 d) 0)):=Y (by have hr:=ZN.born (D w<|Sc #[H Z_,X R_ n c_] 25) n;rw[aO]at hr;refine⟨Xg (Xb (Xb Rf _) _) r,aA,R,YA.refl _ _ _,_,(hr.below r).congr λi _=>by simp[UN,Xi],λi da hi e=>by cases e⟩)
 have f0:Cl w2 (Z w.1) 0 (H Z_):=G (r.cell (p:=A (Z w.1) 0) (by show Z w.1<_;simp;omega)) SC;have f1:Cl w2 (Z w.1) 1 (X R_ n c_):=G (r.cell (p:=A (Z w.1) 1) (by show Z w.1<_;simp;omega)) SC;have a9:=Y (show _/\_ from⟨f0,f1⟩);clear r b1 br bv az f0 f1;obtain⟨c,ap⟩:∃c,c=J (Xi F):=⟨_,R⟩;rw[<-ap]at cp |-;have ad:=Y ap;clear ap;go_wp2
 go_loopw [5] (λu wr=>∃k:N,k<=n/\u=H k/\Q (N0 w w2 wr n (Z w.1+2) (Z w2.1) 0 0 (UN (X8 d) k))) λu _=>n-(JB u).toNat
 .exact⟨0,aN,R,a6⟩
 obtain⟨k,hk,rfl,g⟩:=hrel;have cv:=g.2;have aq:Z w.1<Z wr.1:=O;have g0:=G (Xc g.3) a9.1;have g1:=G (Xc g.3) a9.2;by_cases di:k<n;rotate_left
 .have cn:k=n:=O;subst cn;go_wp2;go_ret;obtain⟨ci,h,_⟩:=g.5;exact⟨_,_,R,g.1,(h.ints).mono O aA⟩
 have bc:=Y<|bb.keepS g.4;have ba:=Y<|YF a2 c2 k (Xi F) (Z w.1+2) (Z w2.1) wr bc ad O;go_wp2_with fail
 refine YU ba λw3 b4=>?_;rw[b4];clear b4;cases hh:Cg (Xi F) (k:I)with
 |false=>
  have cb:Q (¬Re (X8 d) k):=Y (λq=>by have:=qS.2<|(C k).2 q;rw[hh]at this;cases this)
  clear hh;go_wp2;exact⟨⟨k+1,O,gM,Y<|g.congr λi _=>(Cx cb i).symm⟩,SA⟩
 |true=>
  have cd:Q (Re (X8 d) k):=Y<|(C k).1 (qS.1 hh);clear hh;have b8:=Y<|(g.below (Xb Rf (Sc (madeCells #[Sb Sn] n) 4)) aq aA);have bf:=Y<|dG wr (Sb Sn) n 4;go_wp2_with fail
  refine(be _ (Xb g.1 _) k).mono ?_;rintro e p⟨v5,a,rfl,S_,b3,a0,bx⟩;obtain⟨a5,c5,rfl,bt⟩:=Xk (xs:=Xi a) (by rw[<-qr];exact b3);have af:=Y λx=>(bx x).trans Fc;have co:J (Xi a)<=1000:=by rw[Y0];exact aJ (YS a0 λx l=>N_ x<|rp ((af x).1 l)) ar
  have c7:Z wr.1+1<=Z p.1:=by have:=S_.4;simp at this;omega
  have ac:=Y (by simpa using bt);have aj:=Y<|bf.of_block (S_.5 _ sP);have aa:=Y ((((g.fresh (Z p.1)).below (Xb Rf (Sc (madeCells #[Sb Sn] n) 4)) aq aA)).below S_ SB aA);obtain⟨v,ao⟩:∃v,v=J (Xi a):=⟨_,R⟩;rw[<-ao]at co |-;have bd:=Y ao;have c9:=Y a0;clear S_ b3 bt bx a0 ao g g0 g1;obtain⟨M,hM⟩:∃M,M=Z wr.1:=⟨_,R⟩;rw[<-hM]at c7 ac aj aa cv aq |-;clear hM;generalize wr=wo at*;go_wp2
  go_loopw [8] (λu y=>∃i:N,i<=v/\u=H i/\Q (p.grownBy y<|S M)/\Q (y.rowIs M 4 n λz=>Sb (Jd (z∈a.take i)))) λu _=>v-(JB u).toNat
  .exact⟨0,aN,R,Y<|lJ _ _,Y<|aj.congr λz _=>sP⟩
  obtain⟨i,hi,rfl,B,K⟩:=hrel;by_cases dd:i<v
  .have V_:i<J a:=by have:=bd.o;rw[Y0]at this;omega
   obtain⟨f,T,rfl,T_,m⟩:=ac i (by rw[Y0];exact V_);have t:(Xi a)[i]'(by rw[Y0];exact V_)=((a[i]:N):I):=by simp[Xi]
   rw[t]at m;have bm:=G (bZ (a:=(A f<|T+i)) (B.5 f T_.2 λe=>by injection e with e;omega)) m;have o:=N_ _<|rp ((af _).1 (aH V_));have bh:Q (∀z,z∈a.take (i+1)↔z∈a.take i\/z=a[i]):=Y λz=>Kx V_;clear m t;generalize a[i]=x at*;have cx:=K.cell o;have fx:=K.frozen x;go_wp2_with fail
   refine⟨⟨i+1,O,gM,Y (B.trans ⟨R,R,R,SH,λk _ hk=>cY λe=>hk<|by rw[e]⟩),Y<|(TS (C:=Sb) K x So).congr λz _=>?_⟩,SA⟩;by_cases e:z=x;·rw[aU e,eB<|(bh z).2 (aZ e)]
   rw[aM e];have:(z∈a.take (i+1))↔z∈a.take i:=(bh z).trans ⟨λq=>q.resolve_right e,bC⟩;rw[decide_eq_decide.2 this]
  have O_:Q (a.take i=a):=Y (aW (by have:=bd.o;rw[Y0]at this;omega));rw[O_.o]at K;have a8:=Y<|aa.grown B ⟨aA,O⟩ O O O aA;have a7:=Y (a8.congr λb _=>(BG F a k b).symm);have ds:=B.4;clear O_ B;generalize wr=w7 at*;go_wp2
  go_loopw [9] (λu y=>∃i:N,i<=c/\u=H i/\Q (N0 w w2 y n (Z w.1+2) (Z w2.1) M (Z p.1) (Zy (X8 d) F a k i))/\Q (YA M (Z p.1) w7 y)/\Q (Z w7.1<=Z y.1)) λu _=>c-(JB u).toNat
  .exact⟨0,aN,R,a7,Y<|YA.refl _ _ _,Y<|aA⟩
  obtain⟨j,hj,rfl,V,al,bi⟩:=hrel;by_cases df:j<c;rotate_left
  .have O_:Q (∀b,Zy (X8 d) F a k j b=UN (X8 d) (k+1) b):=Y (λb=>Bt C af cd (by have:=ad.o;rw[Y0]at this;omega) b);go_wp2;exact⟨⟨k+1,O,gM,Y<|(V.congr λb _=>O_ b).forget⟩,SA⟩
  have W:j<J F:=by have:=ad.o;rw[Y0]at this;omega
  obtain⟨f,T,rfl,T_,m⟩:=bb j (by rw[Y0];exact W);have t:(Xi F)[j]'(by rw[Y0];exact W)=((F[j]:N):I):=by simp[Xi]
  rw[t]at m;have bm:=G (bZ (a:=(A f<|T+j)) (V.4 f T_.1 T_.2)) m;have o:=N_ _<|(C _).1 (aH W);have ce:=Y<|K.of_block (al M aA O);have cx:=ce.cell o;have dn:=bi.o;have dk:Z p.1<=Z wr.1:=O;by_cases s:F[j]∈a
  .have ab:=Y λb=>DN (tg:=X8 d) (k:=k) W s b;rw[eB s]at cx;clear m t s;generalize F[j]=x at*;go_wp2;exact⟨⟨j+1,O,gM,Y (V.congr λb _=>(ab b).symm),al,bi⟩,SA⟩
  have ab:=Y λb=>CD (tg:=X8 d) (k:=k) ca W s b;rw[dJ s]at cx;clear m t s;generalize F[j]=x at*;obtain⟨ci,h,bq⟩:=V.5;have HU:=Y h;have a4:=Y bq;obtain⟨ua,uc,Y_,_⟩:=Xk<|h.2.1 x o;have cU:=h.1.cell o;have fU:=h.1.frozen x;have Q_:=Y Y_;rw[Y_]at cU;have ct:J (Zy (X8 d) F a k j x)<=1001:=aJ (Ca F a k j x) O;obtain⟨v_,X_⟩:∃v_,v_=J (Zy (X8 d) F a k j x):=⟨_,R⟩;rw[<-X_]at cU ct;have E_:=Y X_;have cc:=Y (by have q:=h.2.1 x o;rw[Y_,<-X_]at q;exact q);have db:=h.1.lt;have cs:f≠Z w.1+1:=O;have cl:f<Z wr.1:=O;clear h bq Y_ X_;go_wp2_with fail
  refine Y7 (λL=>E L (A f<|T+j)=S (H x)) λig=>?_;refine Xn 0 ?_;(iterate 11 refine Rm ?_);refine Xn 13 ?_;refine eS (rs:=[12,14]) vZ sP ?_;refine(bQ R (λK_ hK=>?_) (bQ R (λK_ hK=>?_) dY));go_simp;refine hK _ _ kP λig=>?_;clear hK
  refine Xs 14 λK_ hK=>?_;go_simp;refine hK _ _ kP λig=>?_;clear hK;rotate_left;go_simp;refine hK _ _ kP λig=>?_;clear hK
  refine Xs 12 λK_ hK=>?_;go_simp;refine hK _ _ kP λig=>?_;clear hK
  all_goals (
   refine Xs 15 λK_ hK=>?_;refine YI RH (ue cc) ?_
   intro v8 w8 a1 U_ _ bp;obtain⟨g8,c8,rfl,dc,_⟩:=Xm a1 O;obtain⟨bn,bo,bl,ck⟩:=(V.below (dC (Z wr.1) wr).drew O aA).push (x:=(k:I)) (t:=x) (HU.below (dC (Z wr.1) wr).drew) a4 o (by rw[Q_.o,<-E_.o];exact U_) (by rw[<-E_.o];exact a1) (by rw[Q_.o,<-E_.o];simpa using bp) aA (by show Z p.1<=Z wr.1;omega) O O;rw[Q_.o,<-E_.o]at bl;have z6:E w8 (A f<|T+j)=S (H x):=by
    have h1:=U_.5 f SB (λe=>by have h2:=a4 x f o (by rw[Q_.o,<-E_.o];exact e.symm);omega)
    have h3:(D wr.drew<|Sc #[H k] 2).1[f]?=wr.1[f]?:=gF wr.drew _ _ cl;exact G (Xc<|G h1 h3) bm
   have b7:=Y bn;have cf:Q (YA M (Z p.1) w7<|Se w8 (A (Z w.1+1) x) (Hl g8 (v_+1) c8)):=Y λb5 q1 q2=>G (bo b5 q1 q2) (al b5 q1 q2);have cg:Q (Z w7.1<=Z (Se w8 (A (Z w.1+1) x) (Hl g8 (v_+1) c8)).1):=Y (by rw[Xd];have:=U_.4;simp at this;omega);clear a1 U_ bp bn bo;refine hK _ _ z6 λig=>?_;clear hK;refine Xn 16 ?_;refine Xn 17 ?_;refine Xs 18 λK_ hK=>?_;go_simp;refine hK _ _ (G (Xc<|cY cs) z6) λig=>?_;clear hK;refine Yq ?_;clear ig bl ck z6;generalize Se w8 _ _=w9 at*;go_wp2
   exact⟨⟨j+1,O,gM,Y (b7.congr λb _=>(ab b).symm),cf,cg⟩,SA⟩)
end
end Go.Proofs.YtcncjgijikoapaaGreatDoor
