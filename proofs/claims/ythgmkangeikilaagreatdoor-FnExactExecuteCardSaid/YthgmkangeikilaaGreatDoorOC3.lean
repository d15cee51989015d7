import Derived.Test.YthgmkangeikilaaGreatDoorOC2
namespace Go.Proofs.YthgmkangeikilaaGreatDoor
set_option maxHeartbeats 4000000
set_option maxRecDepth 100000
open _root_ renaming Array.size->Z,Nat->N,rfl->R,List.range->Rg,List.length->J,Int->I,Bool.true->So,Bool.false->Sn,Option.some->S,Option.none->U,absurd->Sz,Decidable.decide->Jd,trivial->JV
open Value renaming agg->Sa,slice->X,int->Si,pointer->Sj,tuple->St,bool->Sb,string->Sg
open Go renaming Ending.returned->Rt,RowKit.Below->Sw,Calls->Sk,RowKit.intOf->JB,World.cell?->E,World.alloc->D,World.setCell->Se,World.ownsRow->Sx,IntKind.i64->S6,Obj.cells->Sc,results->JC,undef->Su
open Go.RowKit Go.Proofs.Tryz Go.Shelf
variable{r:Bool}{t T z:I}{n m k B g i j c:N}{w v u:Ub}{a A_:Uj}{p P:Uy}{h:Vu}{s:Wa}{l L:Wc}{x:Wi}{f F:Wk}{y:Wo}
section
structure N0(w w2 wr:Ub)(n A0 A1 M0 M1:N)(P:Tj):Prop where
 bel:Sw (Z w.1) w wr
 sz:Z w2.1<=Z wr.1
 fb:wr.1[Z w.1]?=w2.1[Z w.1]?
 same:YA A0 A1 w2 wr
 rows:∃U_,ZN wr (Z w.1+1) n P U_/\∀i g,i<n->(U_ i).ownBlock=S g->(g<A0\/A1<=g)/\(g<M0\/M1<=g)
section
variable{w w2 wr wr':Ub}{n A0 A1 M0 M1:N}{P:N->Wc}
theorem N0.below(h:N0 w w2 wr n A0 A1 M0 M1 P)(k:Sw (Z wr.1) wr wr')(c:Z w.1<Z wr.1)(d:A1<=Z w2.1):N0 w w2 wr' n A0 A1 M0 M1 P:=by let⟨e,a,b⟩:=h.5;have:=h.2;exact⟨Xg h.1 k,aJ h.2 k.4,G (k.5 _ c) h.3,λq q1 q2=>G (k.5 q O) (h.4 q q1 q2),e,a.below k,b⟩
theorem N0.fresh(h:N0 w w2 wr n A0 A1 0 0 P)(M1):N0 w w2 wr n A0 A1 (Z wr.1) M1 P:=by let⟨d,a,c⟩:=h.5;exact⟨h.1,h.2,h.3,h.4,d,a,λi g b e=>⟨(c i g b e).1,bC ((a.2.1 i b).lt g e).2⟩⟩
theorem N0.forget(h:N0 w w2 wr n A0 A1 M0 M1 P):N0 w w2 wr n A0 A1 0 0 P:=by let⟨d,a,b⟩:=h.5;exact⟨h.1,h.2,h.3,h.4,d,a,λi g c e=>⟨(b i g c e).1,aZ<|aN⟩⟩
theorem N0.congr{P'}(h:N0 w w2 wr n A0 A1 M0 M1 P)(e:∀i,i<n->P i=P' i):N0 w w2 wr n A0 A1 M0 M1 P':=by let⟨c,a,b⟩:=h.5;exact⟨h.1,h.2,h.3,h.4,c,a.congr e,b⟩
theorem N0.grown{M}(h:N0 w w2 wr n A0 A1 M0 M1 P)(k:wr.grownBy wr' (S M))(l:M0<=M/\M<M1)(f:A1<=M0)(m:Z w.1+1<M0)(d:Z w.1+1<Z wr.1)(j:A1<=Z w2.1):N0 w w2 wr' n A0 A1 M0 M1 P:=by
 let⟨p,a,b⟩:=h.5;have o:=h.2;refine⟨h.1.grown k O (λq e=>by cases e;omega),aJ h.2 k.4,G (k.5 _ O λe=>by injection e with e;omega) h.3,λq q1 q2=>G (k.5 q O λe=>by injection e with e;omega) (h.4 q q1 q2),p,⟨a.1.of_block (k.5 _ d λe=>by injection e with e;omega),λi c=>?_,a.2.2⟩,b⟩;refine(a.2.1 i c).kept k ?_;cases e:(p i).ownBlock with
 |none=>exact bC R
 |some g=>exact aZ λe2=>by injection e2 with e2;have:=(b i g c e).2;omega
theorem N0.push{c:Ub}{o t x}{b:Uj}{K}(h:N0 w w2 wr n A0 A1 M0 M1 P)(d:ZN wr (Z w.1+1) n P K)(j:∀i g,i<n->(K i).ownBlock=S g->(g<A0\/A1<=g)/\(g<M0\/M1<=g))(f:t<n)(a:(D wr o).grownBy c (K t).ownBlock)(L:Sx c (Z w.1+1+1) 2 1 b (J (P t)+1) ((P t).map (Si S6)++[Si S6 x]))(s:b.ownBlock=(K t).ownBlock\/b.ownBlock=S (Z wr.1+1))(F:A1<=Z w2.1)(V:M1<=Z wr.1)(W:Z w.1+1<A0)(I_:Z w.1+1<M0):
 N0 w w2 (Se c ⟨Z w.1+1,t,U⟩ b) n A0 A1 M0 M1 (λi=>if i=t then P t++[x]else P i)/\YA M0 M1 wr (Se c ⟨Z w.1+1,t,U⟩ b)/\E c ⟨Z w.1+1,t,U⟩=S (K t)/\c.frozen? ⟨Z w.1+1,t,U⟩=Sn:=by
 have K_:=h.2;have B:=d.1.lt;have J_:=a.4;have C:Z (D wr o).1=Z wr.1+1:=aO _ _;have r:∀k,k<Z wr.1->(D wr o).1[k]?=wr.1[k]?:=λk m=>gF _ _ _ m;have M:=(d.alloc o).step f x b a L (by rw[C];exact s);have l:∀k,k<Z wr.1->k≠Z w.1+1->S k≠(K t).ownBlock->(Se c (A (Z w.1+1) t) b).1[k]?=wr.1[k]?:=λk y z T=>G (cY z) (G (a.5 k O T) (r k y));have p:∀k,k<=Z w.1+1->S k≠(K t).ownBlock:=λk m e=>by have:=((d.2.1 t f).lt k e.symm).1;omega
 have u:=G (a.5 _ O<|p _ aA) (r _ B);refine⟨⟨?_,SF,G (l _ O O<|p _ O) h.3,λq q1 q2=>G (l q O O λe=>by have:=(j t q f e.symm).1;omega) (h.4 q q1 q2),_,M,λi g v e=>?_⟩,λq q1 q2=>l q O O (λe=>by have:=(j t q f e.symm).2;omega),G (Xc u) (d.1.cell f),G (bJ u) (d.1.frozen t)⟩;·exact⟨G a.1 h.1.1,G a.2 h.1.2,G a.3 h.1.3,SF,λk m=>G (l k O O<|p k O) (h.1.5 k m)⟩
 by_cases e1:i=t
 .subst e1;simp only[gG]at e;obtain q|q:=s;·exact j i g v<|by rw[<-q];exact e
  rw[q]at e;have:=gQ e;omega
 simp only[e1,fD]at e;exact j i g v e
end
theorem Di(Z_){R_ n}(c_){d ch a3 w}(ha:Q (Xp w ch a3 R_ d))(l:Q (n=J d))(hB:a3<=Z w.1)(W_:Q (UF d)):
 Sk prog 95 #[Sa #[H Z_,X R_ n c_]] w λe L=>∃a' c',e=Rt (X a' n c')/\Sw (Z w.1) w L/\XR L (Z w.1) (Z L.1) a' ((Rg n).map λb:N=>Xi<|Zq (X8 d) n b):=by
 have ar:n<=1000:=oP W_.2 l.o;have cr:0<n:=oP W_.1 l.o;have N_:Q (∀x,Re (X8 d) x->x<n):=Y (by rw[l.o];exact W_.re);have be:=Y (λcj (hb:Sw (Z w.1) w cj) z=>qt Z_ c_ z (Y<|ha.keep (hb.mono hB)) l ar cr (oN hb.4) (Y<|by rw[l.o];exact W_.3));have cq:=J9 (P:=prog) 88 99 (Sa #[Hq]) 1 24 underlying88 QQ n O O;have b0:madeCells (Sa #[Hq]).cells (n*1)=madeCells #[Hq] n:=by rw[iN];rfl
 rw[b0]at cq;have dj:=fM (P:=prog) 89 4 (Sb Sn) 1 underlying89 Q7 R S6 S6 n O O;clear b0
 go_in
 go_wp2_with fail
 refine(be _ (Xb (Xb Rf _) _) (-1)).mono ?_;rintro e w2⟨v2,F,rfl,r,b1,az,bv⟩;obtain⟨a2,c2,rfl,br⟩:=Xk (xs:=Xi F) (by rw[<-qr];exact b1);have C:=Y λx=>(bv x).trans (rf vY);have ca:=Y az;have cp:J (Xi F)<=1000:=by rw[Y0];exact aJ (YS az λx l=>N_ x<|(C x).1 l) ar
 have dl:Z w.1+2<=Z w2.1:=by have:=r.4;simp at this;omega
 have bb:Q (Xf w2 (Z w.1+2) (Z w2.1) a2 (Xi F)):=Y (by simpa using br);have a6:Q (N0 w w2 w2 n (Z w.1+2) (Z w2.1) 0 0 (UN (X8 d) 0)):=Y (by have hr:=ZN.born (D w<|Sc #[H Z_,X R_ n c_] 45) n;rw[aO]at hr;refine⟨Xg (Xb (Xb Rf _) _) r,aA,R,YA.refl _ _ _,_,(hr.below r).congr λi _=>by simp[UN,Xi],λi da hi e=>by cases e⟩)
 have f0:Cl w2 (Z w.1) 0 (H Z_):=G (r.cell (p:=A (Z w.1) 0) (by show Z w.1<_;simp;omega)) SC;have f1:Cl w2 (Z w.1) 1 (X R_ n c_):=G (r.cell (p:=A (Z w.1) 1) (by show Z w.1<_;simp;omega)) SC;have a9:=Y (show _/\_ from⟨f0,f1⟩);clear r b1 br bv az f0 f1;obtain⟨c,ap⟩:∃c,c=J (Xi F):=⟨_,R⟩;rw[<-ap]at cp |-;have ad:=Y ap;clear ap;go_wp2
 go_loopw [5] (λu wr=>∃k:N,k<=n/\u=H k/\Q (N0 w w2 wr n (Z w.1+2) (Z w2.1) 0 0 (UN (X8 d) k))) λu _=>n-(JB u).toNat
 .exact⟨0,aN,R,a6⟩
 obtain⟨k,hk,rfl,g⟩:=hrel;have cv:=g.2;have aq:Z w.1<Z wr.1:=O;have g0:=G (Xc g.3) a9.1;have g1:=G (Xc g.3) a9.2;by_cases di:k<n;rotate_left
 .have cn:k=n:=O;subst cn;go_wp2;go_ret;obtain⟨ci,h,_⟩:=g.5;exact⟨_,_,R,g.1,(h.ints).mono O aA⟩
 have bc:=Y<|bb.keepS g.4;have ba:=Y<|YF a2 c2 k (Xi F) (Z w.1+2) (Z w2.1) wr bc ad O;go_wp2_with fail
 refine YU ba λw3 b4=>?_;rw[b4];clear b4;cases hh:Cg (Xi F) (k:I)with
 |false=>
  have cb:Q (¬Re (X8 d) k):=Y (λq=>by have:=qS.2<|(C k).2 q;rw[hh]at this;cases this)
  clear hh;go_wp2;exact⟨⟨k+1,O,gM,Y<|g.congr λi _=>(Cx cb i).symm⟩,SA⟩
 |true=>
  have cd:Q (Re (X8 d) k):=Y<|(C k).1 (qS.1 hh);clear hh;have b8:=Y<|(g.below (Xb Rf (Sc (madeCells #[Sb Sn] n) 4)) aq aA);have bf:=Y<|dG wr (Sb Sn) n 4;go_wp2_with fail
  refine(be _ (Xb g.1 _) k).mono ?_;rintro e p⟨v5,a,rfl,S_,b3,a0,bx⟩;obtain⟨a5,c5,rfl,bt⟩:=Xk (xs:=Xi a) (by rw[<-qr];exact b3);have af:=Y λx=>(bx x).trans Fc;have co:J (Xi a)<=1000:=by rw[Y0];exact aJ (YS a0 λx l=>N_ x<|rp ((af x).1 l)) ar
  have c7:Z wr.1+1<=Z p.1:=by have:=S_.4;simp at this;omega
  have ac:=Y (by simpa using bt);have aj:=Y<|bf.of_block (S_.5 _ sP);have aa:=Y ((((g.fresh (Z p.1)).below (Xb Rf (Sc (madeCells #[Sb Sn] n) 4)) aq aA)).below S_ SB aA);obtain⟨v,ao⟩:∃v,v=J (Xi a):=⟨_,R⟩;rw[<-ao]at co |-;have bd:=Y ao;have c9:=Y a0;clear S_ b3 bt bx a0 ao g g0 g1;obtain⟨M,hM⟩:∃M,M=Z wr.1:=⟨_,R⟩;rw[<-hM]at c7 ac aj aa cv aq |-;clear hM;generalize wr=wo at*;go_wp2
  go_loopw [8] (λu y=>∃i:N,i<=v/\u=H i/\Q (p.grownBy y<|S M)/\Q (y.rowIs M 4 n λz=>Sb (Jd (z∈a.take i)))) λu _=>v-(JB u).toNat
  .exact⟨0,aN,R,Y<|lJ _ _,Y<|aj.congr λz _=>sP⟩
  obtain⟨i,hi,rfl,B,K⟩:=hrel;by_cases dd:i<v
  .have V_:i<J a:=by have:=bd.o;rw[Y0]at this;omega
   obtain⟨f,T,rfl,T_,m⟩:=ac i (by rw[Y0];exact V_);have t:(Xi a)[i]'(by rw[Y0];exact V_)=((a[i]:N):I):=by simp[Xi]
   rw[t]at m;have bm:=G (bZ (a:=(A f<|T+i)) (B.5 f T_.2 λe=>by injection e with e;omega)) m;have o:=N_ _<|rp ((af _).1 (aH V_));have bh:Q (∀z,z∈a.take (i+1)↔z∈a.take i\/z=a[i]):=Y λz=>Kx V_;clear m t;generalize a[i]=x at*;have cx:=K.cell o;have fx:=K.frozen x;go_wp2_with fail
   refine⟨⟨i+1,O,gM,Y (B.trans ⟨R,R,R,SH,λk _ hk=>cY λe=>hk<|by rw[e]⟩),Y<|(TS (C:=Sb) K x So).congr λz _=>?_⟩,SA⟩;by_cases e:z=x;·rw[aU e,eB<|(bh z).2 (aZ e)]
   rw[aM e];have:(z∈a.take (i+1))↔z∈a.take i:=(bh z).trans ⟨λq=>q.resolve_right e,bC⟩;rw[decide_eq_decide.2 this]
  have O_:Q (a.take i=a):=Y (aW (by have:=bd.o;rw[Y0]at this;omega));rw[O_.o]at K;have a8:=Y<|aa.grown B ⟨aA,O⟩ O O O aA;have a7:=Y (a8.congr λb _=>(BG F a k b).symm);have ds:=B.4;clear O_ B;generalize wr=w7 at*;go_wp2
  go_loopw [9] (λu y=>∃i:N,i<=c/\u=H i/\Q (N0 w w2 y n (Z w.1+2) (Z w2.1) M (Z p.1) (Zy (X8 d) F a k i))/\Q (YA M (Z p.1) w7 y)/\Q (Z w7.1<=Z y.1)) λu _=>c-(JB u).toNat
  .exact⟨0,aN,R,a7,Y<|YA.refl _ _ _,Y<|aA⟩
  obtain⟨j,hj,rfl,V,al,bi⟩:=hrel;by_cases df:j<c;rotate_left
  .have O_:Q (∀b,Zy (X8 d) F a k j b=UN (X8 d) (k+1) b):=Y (λb=>Bt C af cd (by have:=ad.o;rw[Y0]at this;omega) b);go_wp2;exact⟨⟨k+1,O,gM,Y<|(V.congr λb _=>O_ b).forget⟩,SA⟩
  have W:j<J F:=by have:=ad.o;rw[Y0]at this;omega
  obtain⟨f,T,rfl,T_,m⟩:=bb j (by rw[Y0];exact W);have t:(Xi F)[j]'(by rw[Y0];exact W)=((F[j]:N):I):=by simp[Xi]
  rw[t]at m;have bm:=G (bZ (a:=(A f<|T+j)) (V.4 f T_.1 T_.2)) m;have o:=N_ _<|(C _).1 (aH W);have ce:=Y<|K.of_block (al M aA O);have cx:=ce.cell o;have dn:=bi.o;have dk:Z p.1<=Z wr.1:=O;by_cases s:F[j]∈a
  .have ab:=Y λb=>DN (tg:=X8 d) (k:=k) W s b;rw[eB s]at cx;clear m t s;generalize F[j]=x at*;go_wp2;exact⟨⟨j+1,O,gM,Y (V.congr λb _=>(ab b).symm),al,bi⟩,SA⟩
  have ab:=Y λb=>CD (tg:=X8 d) (k:=k) ca W s b;rw[dJ s]at cx;clear m t s;generalize F[j]=x at*;obtain⟨ci,h,bq⟩:=V.5;have HU:=Y h;have a4:=Y bq;obtain⟨ua,uc,Y_,_⟩:=Xk<|h.2.1 x o;have cU:=h.1.cell o;have fU:=h.1.frozen x;have Q_:=Y Y_;rw[Y_]at cU;have ct:J (Zy (X8 d) F a k j x)<=1001:=aJ (Ca F a k j x) O;obtain⟨v_,X_⟩:∃v_,v_=J (Zy (X8 d) F a k j x):=⟨_,R⟩;rw[<-X_]at cU ct;have E_:=Y X_;have cc:=Y (by have q:=h.2.1 x o;rw[Y_,<-X_]at q;exact q);have db:=h.1.lt;have cs:f≠Z w.1+1:=O;have cl:f<Z wr.1:=O;clear h bq Y_ X_;go_wp2_with fail
  refine Y7 (λL=>E L (A f<|T+j)=S (H x)) λig=>?_;refine Xn 0 ?_;(iterate 11 refine Rm ?_);refine Xn 13 ?_;refine eS (rs:=[12,14]) vZ sP ?_;refine(bQ R (λK_ hK=>?_) (bQ R (λK_ hK=>?_) dY));go_simp;refine hK _ _ kP λig=>?_;clear hK
  refine Xs 14 λK_ hK=>?_;go_simp;refine hK _ _ kP λig=>?_;clear hK;rotate_left;go_simp;refine hK _ _ kP λig=>?_;clear hK
  refine Xs 12 λK_ hK=>?_;go_simp;refine hK _ _ kP λig=>?_;clear hK
  all_goals (
   refine Xs 15 λK_ hK=>?_;refine YI RH (ue cc) ?_
   intro v8 w8 a1 U_ _ bp;obtain⟨g8,c8,rfl,dc,_⟩:=Xm a1 O;obtain⟨bn,bo,bl,ck⟩:=(V.below (dC (Z wr.1) wr).drew O aA).push (x:=(k:I)) (t:=x) (HU.below (dC (Z wr.1) wr).drew) a4 o (by rw[Q_.o,<-E_.o];exact U_) (by rw[<-E_.o];exact a1) (by rw[Q_.o,<-E_.o];simpa using bp) aA (by show Z p.1<=Z wr.1;omega) O O;rw[Q_.o,<-E_.o]at bl;have z6:E w8 (A f<|T+j)=S (H x):=by
    have h1:=U_.5 f SB (λe=>by have h2:=a4 x f o (by rw[Q_.o,<-E_.o];exact e.symm);omega)
    have h3:(D wr.drew<|Sc #[H k] 2).1[f]?=wr.1[f]?:=gF wr.drew _ _ cl;exact G (Xc<|G h1 h3) bm
   have b7:=Y bn;have cf:Q (YA M (Z p.1) w7<|Se w8 (A (Z w.1+1) x) (Hl g8 (v_+1) c8)):=Y λb5 q1 q2=>G (bo b5 q1 q2) (al b5 q1 q2);have cg:Q (Z w7.1<=Z (Se w8 (A (Z w.1+1) x) (Hl g8 (v_+1) c8)).1):=Y (by rw[Xd];have:=U_.4;simp at this;omega);clear a1 U_ bp bn bo;refine hK _ _ z6 λig=>?_;clear hK;refine Xn 16 ?_;refine Xn 17 ?_;refine Xs 18 λK_ hK=>?_;go_simp;refine hK _ _ (G (Xc<|cY cs) z6) λig=>?_;clear hK;refine Yq ?_;clear ig bl ck z6;generalize Se w8 _ _=w9 at*;go_wp2
   exact⟨⟨j+1,O,gM,Y (b7.congr λb _=>(ab b).symm),cf,cg⟩,SA⟩)
end
theorem I9(c)(ha:Q (Xp w m k p x))(j:Q (n=J x))(hs:Q (J x+Xx x<=1048576))(hB:k<=Z w.1)(hv:Q (XJ ⟨t,x⟩=So)):
 Sk prog 48 #[Sa #[H t,X p n c]] w λl Q_=>∃P a1 c1 a2 c2 a3 c3 a4 c4,l=Rt (Sa #[X a1 n c1,X a2 n c2,X a3 n c3,X a4 (J (XT P n 0)) c4])/\Sw (Z w.1) w Q_/\YX (X8 x) n P/\MX Q_ (Z w.1) (Z Q_.1) (Pq x) (Pe x) P (Xi<|XT P n 0) a1 a2 a3 a4:=by
 have M:=Y<|Wz hv;have T:n<=1000:=oP M.2 j.o;have ap:0<n:=oP M.1 j.o;have b0:Q (∀V,Re (X8 x) V->V<n):=Y (j.o▸M.re);have a6:=Y λW (g:Sw (Z w.1) w W)=>Tr t p n c x m k W (Y<|ha.keep (g.mono hB)) j hs (oN g.4);rw[<-WY,hv.o]at a6
 go_in
 go_wp2_with fail
 refine YU (a6 _ (by first|exact Rf|exact Xb Rf _|exact Xb (Xb Rf _) _)) λa V_=>?_;obtain⟨ba,dw⟩:=NC V_;have k0:E a (A (Z w.1) 0)=S (H t):=by rw[ba _ _<|by simp;omega];simp[go_sem]
 have k1:E a (A (Z w.1) 1)=S (X p n c):=by rw[ba _ _<|by simp;omega];simp[go_sem]
 have ac:=Y<|Xg (Xb (Xb (dC (Z w.1) w) _) _) V_;have f0:Z w.1+2<=Z a.1:=by have:=V_.4;simp at this;omega
 have bx:Q (a.rowIs (Z w.1+1) 91 4 λ_=>Hq):=Y (by
  have aj:=eK (D w<|Sc #[H t,X p n c] 45) #[Hq,Hq,Hq,Hq] 91 (λ_=>Hq) (λi o=>by
   match i,o with
   |0,_=>rfl
   |1,_=>rfl
   |2,_=>rfl
   |3,_=>rfl)
  rw[aO]at aj;exact aj.of_block<|V_.5 _ sP)
 clear ba dw V_;have s:Z w.1<Z a.1:=O;go_wp2_with fail
 refine((Y λW (g:Sw (Z w.1) w W) z=>qt t c z (Y<|ha.keep (g.mono hB)) j T ap (oN g.4) (Y (j.o▸M.3))) _ (Xb ac _) (-1)).mono ?_;rintro l v⟨v2,F,rfl,M_,cn,cm,ck⟩;obtain⟨a2,df,rfl,al⟩:=Xk (xs:=Xi F) (qr▸cn);have bt:=Y λV=>(ck V).trans (rf vY);have ea:J (Xi F)<=1000:=by rw[Y0];exact aJ (YS cm λV j=>b0 V<|(bt V).1 j) T
 have f4:Z a.1+1<=Z v.1:=by have:=M_.4;simp at this;omega
 have cr:=Y (by simpa using al);have er:=Y<|Xg (Xb ac<|Sc #[Hq,Hq,Hq,Hq] 91) M_;have bo:Q (Oa a v v (λ_=>Hq) (λz=>Sb (Cg (Xi F) z)) (λi:N=>AQ x 0 i) 0 0 U 0 0 U 0):=Y (by
  have h0:OE a (D a<|Sc #[Hq,Hq,Hq,Hq] 91) (Z a.1) Hq Hq (λ_=>Hq) (λz=>Sb (Cg (Xi F) z)) 0 U 0 0 U 0 :=
   ⟨SC,SC,SC,SC,λu=>(eK a #[Hq,Hq,Hq,Hq] 91 (λi=>#[Hq,Hq,Hq,Hq].getD i Su) λi o=>by simp[Array.getElem?_eq_getElem o]).frozen u,Xb Rf _,sP,R,dA,dA,bC R⟩
  exact⟨h0.below M_,λi o=>Sz o<|wA _,YA.refl _ _ _,λd Y_=>(by obtain l|l:=Y_<;>cases l),aA⟩)
 have es:Q (E v (A (Z w.1) 0)=S (H t)/\E v (A (Z w.1) 1)=S (X p n c)):=Y ⟨oB M_ (G (bP a _ (A (Z w.1) 0) s) k0) (by show Z w.1<_;simp;omega),oB M_ (G (bP a _ (A (Z w.1) 1) s) k1) (by show Z w.1<_;simp;omega)⟩;clear M_ cn al ck cm;obtain⟨lF,bb⟩:∃lF,lF=J (Xi F):=⟨_,R⟩;rw[<-bb]at ea |-;have cs:=Y bb;have ad:Q (E a (A (Z w.1) 0)=S (H t)/\E a (A (Z w.1) 1)=S (X p n c)):=Y ⟨k0,k1⟩;clear bb k0 k1;go_wp2
 go_loopw [5] (λab wr=>∃(b:N)(N_:Uy)(c1:N)(O_:Uy)(c2:N)(af:Vu),b<=n/\ab=H b/\Q (Oa a v wr af (λz=>Sb (Cg (Xi F) z)) (λi:N=>AQ x 0 i) b b N_ c1 b O_ c2)) λab _=>n-(JB ab).toNat
 .exact⟨0,U,0,U,0,_,aN,R,bo⟩
 obtain⟨b,N_,c1,O_,c2,af,e7,rfl,C⟩:=hrel;have fz:=C.1.7;have cj:Z w.1<Z wr.1:=O;have bm:=Y<|ac.trans (C.1.6.mono O);have g0:=oB C.1.6 ad.1 s;have E_:=oB C.1.6 ad.2 s;by_cases fj:b<n
 .have m0:=C.1.1;have cw:=Y<|C.below (dC (Z wr.1) wr).drew;have co:=Y bm.drew;have fr:J (AQ x 0 b)<=1000:=aJ (YO _ _ _) (oN j.o);have cl:Z w.1≠Z a.1:=O;go_wp2_with fail
  refine Y7 (λQ_=>E Q_ (A (Z w.1) 0)=S (H t)/\E Q_ (A (Z w.1) 1)=S (X p n c)) λig=>?_;refine Xn 0 ?_;refine Xn 2 ?_;refine Xn 3 ?_;refine eS (rs:=[1,4]) vZ sP ?_;refine(bQ R (λK hK=>?_) (bQ R (λK hK=>?_) dY))
  focus
   go_simp;refine hK _ _ kP λig=>?_;clear hK
   refine Xs 4 λK hK=>?_
  all_goals (
   go_simp
   go_at_call 89
   refine((Y λW (g:Sw (Z w.1) w W) u=>ZE t c u (Y<|ha.keep (g.mono hB)) j O (oN g.4)) _ co b).mono ?_;rintro l e⟨ua,uc,rfl,B,ci⟩;have R_:=Y<|cw.newU (u:=X ua (J (AQ x 0 b)) uc) (uc:=uc) B R ci;have y0:=R_.1.1;have yl:=R_.1.7;have bh:=oB B g0 cj;have bi:=oB B E_ cj;have az:Z wr.1<=Z e.1:=B.4;clear B ci;generalize J (AQ x 0 b)=ul at*;refine hK _ _ ⟨bh,bi⟩ λig=>?_;clear hK;refine Xn 5 ?_)
  rotate_left;refine eS (rs:=[1,6]) vZ sP ?_;refine(bQ R (λK hK=>?_) (bQ R (λK hK=>?_) dY))
  focus
   go_simp;refine hK _ _ kP λig=>?_;clear hK
  rotate_left
  all_goals (
   try (refine eS (rs:=[6]) vZ sP ?_;refine bQ R (λK hK=>?_) dY)
   go_simp;refine hK _ _ kP λig=>?_;clear hK
   skip)
  focus
   refine Xs 1 λK hK=>?_;go_simp;refine hK _ _ kP λig=>?_;clear hK
  all_goals (
   refine Xs 7 λK hK=>?_;refine YI QQ R_.1.9 ?_
   intro v8 w8 be cg _ cb;obtain⟨g8,c8,rfl,fc,_⟩:=Xm be O;obtain⟨b8,b3,b6,a9⟩:=R_.app1 cg (by rw[aU R];exact be) (by simpa using cb);have z0:=G (b3 0) R_.1.1;have zf:=b6 0;have za:=oB a9 bh s;have zb:=oB a9 bi s;have a0:=Y b8;clear be cg cb b8 b3 b6 a9;refine hK _ _ ⟨za,zb⟩ λig=>?_;clear hK;refine Xn 8 ?_;refine Xs 9 λK hK=>?_;go_simp;refine hK _ _ ⟨G (Xc<|cY cl) za,G (Xc<|cY cl) zb⟩ λig=>?_;clear hK;refine Yq ?_;clear ig z0 zf za zb y0 yl bh bi m0;generalize Se w8 _ _=w9 at*;have S_:=Y<|a0.below (dC (Z w9.1) w9).drew;have x1:=a0.1.2;have xl:=a0.1.7;have bp:=Y λW (aj:YA (Z a.1+1) (Z v.1) v W)=>YF a2 df b (Xi F) (Z a.1+1) (Z v.1) W (Y<|cr.keepS aj) cs O;go_wp2_with fail
   refine Y7 (λ_=>True) λig=>?_;refine Xn 0 ?_;refine Xn 2 ?_;refine Xn 3 ?_;refine eS (rs:=[1,4]) vZ sP ?_;refine(bQ R (λK hK=>?_) (bQ R (λK hK=>?_) dY));go_simp;refine hK _ _ kP λig=>?_;clear hK
   refine Xs 4 λK hK=>?_;go_simp
   go_at_call 91
   refine YU (bp _ S_.3) λep bf=>?_;subst bf;refine hK _ _ JV λig=>?_;clear hK;refine Xs 5 λK hK=>?_;go_simp;refine hK _ _ kP λig=>?_;clear hK;rotate_left;go_simp
   go_at_call 91
   refine YU (bp _ S_.3) λep bf=>?_;subst bf;refine hK _ _ JV λig=>?_;clear hK
   refine eS (rs:=[1,5]) vZ sP ?_;refine(bQ R (λK hK=>?_) (bQ R (λK hK=>?_) dY));go_simp;refine hK _ _ kP λig=>?_;clear hK
   refine Xs 5 λK hK=>?_;go_simp;refine hK _ _ kP λig=>?_;clear hK;rotate_left;go_simp;refine hK _ _ kP λig=>?_;clear hK
   refine Xs 1 λK hK=>?_;go_simp;refine hK _ _ kP λig=>?_;clear hK
   all_goals (
    refine Xs 6 λK hK=>?_;refine YI Q7 S_.1.o2 ?_
    intro gb eq bd ce _ ca;obtain⟨ez,dd,rfl,e9,_⟩:=Xm bd O;obtain⟨b7,b1,b5,ds⟩:=S_.app2 ce bd (by simpa using ca);have z0:=G (b1 1) S_.1.2;have zf:=b5 1;have ct:=Y b7;clear bd ce ca b7 b1 b5 ds;refine hK _ _ JV λig=>?_;clear hK;refine Xn 7 ?_;refine Xs 8 λK hK=>?_;go_simp;refine hK _ _ JV λig=>?_;clear hK;refine Yq ?_;clear ig z0 zf;generalize Se eq _ _=gd at*;go_wp2
    exact⟨⟨b+1,_,c8,_,dd,_,O,gM,ct⟩,SA⟩))
 have dn:n=b:=O;subst dn;have bn:=Y ((Y λW (g:Sw (Z w.1) w W)=>Di t c (Y<|ha.keep (g.mono hB)) j (oN g.4) M).o wr bm);go_wp2_with fail
 refine bn.mono ?_;rintro l w3⟨da,dc,rfl,a7,cd⟩;have J_:Q (YX (X8 x) n ((Rg n).map (L0<|(Rg n).map (Zq (X8 x) n)))):=Y (by rw[j.o];exact M.model);have br:=Y (CT da dc ((Rg n).map (Zq (X8 x) n)) (Z wr.1) (Y<|by rw[jO];exact cd) (Y sP) T aA (Y (λga hl=>by obtain⟨b,_,rfl⟩:=aY.1 hl;exact⟨aJ (rr n b) T,λp ha=>(Jo.1 ha).1⟩)))
 have cv:=Y<|C.below a7;have f5:=a7.4;clear a7 cd;go_wp2_with fail
 refine br.mono ?_;rintro l h⟨v4,rfl,a8,aq⟩;obtain⟨P,hP⟩:∃P,P=(Rg n).map (L0<|(Rg n).map (Zq (X8 x) n)):=⟨_,R⟩;rw[<-hP]at J_ aq;obtain⟨y,c3,rfl,fb,_⟩:=Xm aq ap;have f:=Y<|cv.below a8;have cx:=Y aq;have f6:=a8.4;have t2:=f.1.3;have t3:=f.1.4;have tz:=f.1.5;have e0:=oB f.1.6 ad.1 s;have e6:=oB f.1.6 ad.2 s;have fn:Z w.1≠Z a.1:=O;have fq:Z a.1≠Z w.1:=O;clear a8 aq hP g0 E_;have t0:=f.1.1;have t1:=f.1.2;have fs:Q (J (P.map<|Si S6)=n*1):=Y (by simp[J_.1]);have bq:Q (Xf h (Z w3.1) (Z h.1) (S ⟨y,0,U⟩) P):=Y (by obtain⟨a',c',eg,ch⟩:=Xk cx;injection eg with e1;rw[e1];exact ch)
 have fi:=f.1.7;have fe:Z a.1<Z w3.1:=O;have dl:=Y<|bx.of_block (f.1.6.5 _ bx.lt);have bv:=Y (λW (hW:W=Se h (A (Z a.1) 2) (Hl y n c3))=>Me (S ⟨y,0,U⟩) c3 (Z w3.1) (Z h.1) (Y J_.1.symm) T (Re<|X8 x) (Y λb c _ hc=>(Kf J_ hc).1.2) (Y λeo b g=>aJ (o9 J_ b0 eo g) T) n 0 W (Y<|bq.keepS λd T_ L=>by rw[hW];exact cY<|by dsimp only;omega) (by rw[hW,Xd];exact aA) (Y Re.root) T);go_wp2_with fail
 obtain⟨e,r⟩:∃e,e=Se h (A (Z a.1) 2) (Hl y n c3):=⟨_,R⟩;rw[<-r];have B:∀d,d≠Z a.1->e.1[d]?=h.1[d]?:=λd Y_=>by rw[r];exact cY Y_
 have az:Z e.1=Z h.1:=by rw[r,Xd]
 have s2:E e (A (Z a.1) 2)=S (Hl y n c3):=by rw[r];exact fQ _ _ _ t2
 have s0:E e (A (Z a.1) 0)=S (X N_ n c1):=by rw[r];exact G (XL _ _ O _) t0
 have s1:E e (A (Z a.1) 1)=S (X O_ n c2):=by rw[r];exact G (XL _ _ O _) t1
 have s3:E e (A (Z a.1) 3)=S Hq:=by rw[r];exact G (XL _ _ O _) t3
 have sz:∀u,e.frozen? (A (Z a.1) u)=Sn:=λu=>by rw[r,eX];exact tz u
 have ar:e.4=h.4/\e.2=h.2/\e.5=h.5:=by rw[r];exact⟨R,R,R⟩
 have ee:0<J (XT P n 0):=by cases n<;>simp[XT]
 refine(bv e r).mono ?_;rintro l w6⟨v6,rfl,q,bc⟩;obtain⟨L_,c4,rfl,cf,_⟩:=Xm bc ee;have cz:=Y bc;have aa:Z a.1<Z e.1:=O;have r0:=oB q s0 aa;have r1:=oB q s1 aa;have r2:=oB q s2 aa;have r3:=oB q s3 aa;have rz:=λu=>G (bJ<|q.5 _ aa) (sz u);have bl:Q (∀d,d<Z h.1->d≠Z a.1->w6.1[d]?=h.1[d]?):=Y λd T_ L=>G (q.5 d O) (B d L);have a5:Q (w6.4=h.4/\w6.2=h.2/\w6.5=h.5):=Y ⟨G q.1 ar.1,G q.2 ar.2.1,G q.3 ar.2.2⟩;have f7:=q.4;have G_:=dl.of_block<|bl _ O O;have y0:=G_.cell (i:=0) vY;have y1:=G_.cell (i:=1) vY;have y2:=G_.cell (i:=2) vY;have y3:=G_.cell (i:=3) vY;have yf:=G_.frozen;have fl:Z a.1≠Z w.1+1:=O;have eb:Z w.1+1≠Z a.1:=O;have c7:=Y G_;have cq:=Y cf;have db:=Y az;generalize hQ:J (XT P n 0)=ql at*;have HQ:=Y hQ;clear r B s0 s1 s2 s3 sz ar q bc t0 t1 t2 t3 tz G_ az hQ;go_wp2_with fail
 obtain⟨wE,hE⟩:∃wE,wE=Se (Se (Se (Se (Se w6 (A (Z a.1) 3) (Hl L_ ql c4)) (A (Z w.1+1) 0) (X N_ n c1)) (A (Z w.1+1) 1) (X O_ n c2)) (A (Z w.1+1) 2) (Hl y n c3)) (A (Z w.1+1) 3) (Hl L_ ql c4):=⟨_,R⟩;rw[<-hE];obtain⟨z0,z1,z2,z3,cc,fx,ec,ef,ed⟩:=xq c7 eb hE;clear hE;refine YL (v:=Sa #[X N_ n c1,X O_ n c2,Hl y n c3,Hl L_ ql c4]) ?_;have az:=db.o;have cf:=cq.o;have X_:=λd T_ L h3=>G (cc d L h3) (bl d T_ L);obtain⟨E_,q1,e1,e8,_⟩:=Xm f.1.9 ap;obtain⟨g2,q2,e2,fa,_⟩:=Xm f.1.o2 ap;injection e1 with di et eu;injection e2 with dj ev ey;subst di;subst dj;refine⟨P,S<|A E_ 0,c1,S<|A g2 0,c2,S<|A y 0,c3,S<|A L_ 0,c4,by rw[HQ.o],?_,J_,?_,?_,?_,?_⟩
 .have U_:=ac.trans<|f.1.6.mono (dU s);exact⟨G ec<|G a5.1 U_.1,G ef<|G a5.2.1 U_.2,G ed<|G a5.2.2 U_.3,oN U_.4,λd Y_=>G (X_ d O O O) (U_.5 d Y_)⟩
 .intro i o;have ao:i<n:=by have:=j.o;simp only[Pq,bK,gI]at o;omega
  obtain⟨lo,ch,a',c',q1,q2,q3,q4,q5⟩:=f.2 i ao;have du:Cl wE E_ i (af i):=G (bZ<|X_ E_ O O O) (Jj f.1.9<|by simp[ao]);have b4:(Pq x)[i]=AQ x 0 (i:I):=by simp[Pq]
  refine⟨E_,0,R,⟨O,O⟩,a',c',?_,?_⟩;·rw[aV,du,q1,b4]
  rw[b4];exact(q4.keepS λd T_ L=>X_ d O O O).mono O O
 .intro i o;have ao:i<n:=by have:=j.o;simp only[Pe,bK,gI]at o;omega
  have dk:(Pe x)[i]=Xh (Zp x).1 i:=by simp[Pe]
  refine⟨g2,0,R,⟨O,O⟩,?_⟩;rw[aV,dk];have g:=eQ.2<|qS.trans ((bt i).trans (M.top.2.1 i).symm);rw[<-g];exact G (bZ<|X_ g2 O O O) (Jj f.1.o2<|by simp[ao])
 .exact(bq.keepS λd T_ L=>X_ d L O O).mono O O
 intro i o;refine⟨L_,0,R,⟨O,O⟩,?_⟩;rw[aV];have d0:i<J (XT P n 0):=by rw[Y0]at o;exact o
 exact G (bZ<|cc L_ O O) (Jj cz<|by simp[Je,Xi,d0])
theorem TH.start1(h:Sx w n 2 1 a (J l) (l.map<|Si S6))(b:∀g,a.ownBlock=S g->g=n):TH w n w a l:=⟨R,R,R,aA,λ_ _ _=>R,h,λg e=>bC<|b g e⟩
theorem TH.low{wr}(h:TH v n wr a l)(k:Sw n w v)(b:n<=Z v.1):Sw n w wr :=
 ⟨G h.1 k.1,G h.2 k.2,G h.3 k.3,aJ k.4 h.4,λq hq=>G (h.5 q O O) (k.5 q hq)⟩
theorem CA(h:Sx w n m k (Hl B g c) i y):Sx w B m k (Hl B g c) i y:=by
 obtain⟨f,h|⟨d,a,b,e1,j,e⟩⟩:=h;·exact Sz h.1 sP
 have e2:B=d:=by injection e1 with e1;injection e1 with e1;injection e1
 subst e2;exact⟨f,aZ ⟨B,a,b,e1,aA,e⟩⟩
theorem TH.rebase{wr}(h:TH w n wr (Hl m k c) l)(b:Sw (Z wr.1) wr v):TH v m v (Hl m k c) l :=
 TH.start1 (CA<|Zl h.6 λq e=>b.5 q (h.6.lt q e).2) (λq e=>by
  have a:m=q:=by simpa [Value.ownBlock]using e
  exact a.symm)
theorem TH.join{wr}(h:TH w n wr a l)(k:Sw (Z wr.1) wr v)(c:a.ownBlock=S m)(b:TH v m u A_ L):TH w n u A_ L:=by
 have f:=h.4;have g:=k.4;have d:=h.6.lt m c;refine⟨G b.1<|G k.1 h.1,G b.2<|G k.2 h.2,G b.3<|G k.3 h.3,oN b.4,λq q1 q2=>G (b.5 q O λe=>?_) (G (k.5 q O) (h.5 q q1 q2)),Zk b.6 d.1,λq e=>?_⟩
 .rcases h.7 m c with e2|e2;·exact q2<|G e e2
  omega
 obtain e2|e2:=b.7 q e;·rw[e2];exact h.7 m c
 exact aZ O
def QG(a b:Ub):Prop:=a=b
def Gs(w:Ub)(V:N)(b:Wi)(e:Ending)(a:Ub):Prop:=∃s:Bool,e=Rt (Sb s)/\(s=So↔∀v,v<V->¬N4 b v)/\Sw (Z w.1) w a
theorem BN(c)(ha:Q (Xp w k B p x))(L:Q (m=J x))(hB:B<=Z w.1)(i:Q (Jy n x)):
 Sk prog 93 #[Sa #[H n,X p m c]] w λf w'=>Gs w n x f w':=by
 have hn:m<=1000:=oP L.o i.1.2;have ge:0<m:=oP L.o i.1.1;have hV:=i.2;have bm:Sw (Z w.1) w (D w<|Sc #[H n,X p m c] 45):=Xb Rf _;have cx:E (D w<|Sc #[H n,X p m c] 45) (A (Z w.1) 0)=S (H n):=sP;have b0:Z w.1<Z (D w<|Sc #[H n,X p m c] 45).1:=sP;have ch:=Y<|uf n p m c x k B (D w<|Sc #[H n,X p m c] 45) (Y<|ha.keep (bm.mono hB)) L O i
 go_in
 go_wp2_with fail
 refine ch.mono ?_;rintro f w1⟨af,cf,rfl,a6,hF⟩;have dw:=Y hF.at_;have b1:=Y<|Xg bm a6;have g0:=oB a6 cx b0;have fz:=aX b0 a6.4;have dz:=Y g0;clear hF a6 bm cx b0 g0;go_wp2
 go_loopw [4] (λM wr=>∃v:N,v<=n/\M=H v/\Q (Sw (Z w1.1) w1 wr)/\Q (∀d,d < v->¬N4 x d)) λM _=>n-(JB M).toNat
 .exact⟨0,aN,R,Y<|Rf,Y λd h=>Sz h O⟩
 obtain⟨v,hv,rfl,W_,co⟩:=hrel;have k0:=oB W_ dz fz;have dk:=W_.4;by_cases ez:v<n;rotate_left
 .have HS:Q (∀d,d < n->¬N4 x d):=Y λd h=>co d O;go_wp2;go_ret;exact⟨So,R,⟨λ_=>HS,λ_=>R⟩,b1.trans<|W_.mono O⟩
 go_wp2_with fail
 have bn:Sw (Z wr.1) wr (D wr<|Sc #[H 0] 2):=Xb Rf _;have b8:Q (TH (D wr<|Sc #[H 0] 2) (Z wr.1) (D wr<|Sc #[H 0] 2) (Hl (Z wr.1) 1 1) (Xi [0])):=Y (TH.start1 (by
  have h:=eI (base:=Z wr.1) (e:=2) (size:=1) wr #[H 0] 1 aA SD R;exact h) (λet f=>by
  have e':Z wr.1=et:=by simpa [Value.ownBlock]using f
  exact e'.symm))
 have dn:=Y bn;have gl:Z wr.1<Z (D wr<|Sc #[H 0] 2).1:=sP;clear bn k0;generalize D wr _=wt at*;generalize wr=wo at*
 go_loopw [5,6] (λal M wr=>∃(q:N)(F:Wa),q<=J F/\M=H q/\Q (OI x v F q)/\Q (TH wt (Z wo.1) wr al<|Xi F)) λ_ M _=>m-(JB M).toNat
 .exact⟨0,[0],sP,R,Y Ci,b8⟩
 obtain⟨q,F,hq,rfl,y,u⟩:=hrel;have ci:Q (∀f4∈F,f4<m):=Y (by rw[L.o];exact y.lt i.1);have eu:=YS y.1 ci;let⟨aF,cF,eF,c6⟩:=Xk u.6;have br:J (Xi F)=J F:=by simp[Xi]
 let⟨o,f5,az,bp,_⟩:=Xm u.6 (by rw[br];exact eJ y.z);rw[br]at eF az;have eo:aF=S (A o 0):=by rw[eF]at az;injection az
 subst eo;clear az;subst eF;have ee:=Y c6;have f7:=bp.1;have ga:=bp.2;clear bp;have ck:=Y<|u.low dn O;let⟨lF,ad⟩:∃b,b=J F:=⟨_,R⟩;rw[<-ad]at hq eu;rw[<-ad];rw[<-ad]at u;have cj:=Y ad;clear c6 br ad;by_cases e6:q<lF;rotate_left
 .have cq:Q (∀d,d < v+1->¬N4 x d):=Y (λd gh=>by
   by_cases f:d=v
   .subst f;exact y.none<|oN cj.o
   exact co d O)
  have b4:=Y<|W_.trans (ck.mono dk);go_wp2_with fail
  refine⟨?_,SA⟩
  first
   |exact⟨v+1,O,gM,b4,cq⟩
   |((repeat apply gP);refine⟨?_,R⟩;exact⟨v+1,O,gM,b4,cq⟩)
 have T_:q<J F:=by rw[<-cj.o];exact e6
 have fq:q<J (Xi F):=by simp[Xi];exact T_
 let⟨bq,oq,eb,f6,a7⟩:=ee q fq;injection eb with eb;injection eb with ep er;subst ep er;rw[aV]at a7;have eq:(Xi F)[q]=((F[q]:N):I):=by simp[Xi]
 rw[eq]at a7;have fs:=ci _<|aH T_;have C:F[q]<J x:=oN L.o;have T:=Y<|W_.trans (ck.mono dk);obtain⟨bf,of,us,rfl,ev,df,A_⟩:=dw F[q] C;have K:=λj' S_=>oB T (df j' S_) ev
 have b5:=Y (A_.keep (λb' s _=>T.5 b' s) T.4);clear df;let⟨R_,c0,e0,i0⟩:=A_.1;let⟨V,c1,e1,i1⟩:=A_.2;let⟨a2,c2,e2,_⟩:=A_.3;let⟨a3,c3,e3,_⟩:=A_.4;let⟨a4,c4,e4,_⟩:=A_.5;let⟨a5,c5,e5,_⟩:=A_.6;have V_:=K 0 vY;have u1:=K 1 vY;have u2:=K 2 vY;have u3:=K 3 vY;have u4:=K 4 vY;have u5:=K 5 vY;simp only[fW]at V_;rw[e0]at V_;rw[e1]at u1;rw[e2]at u2;rw[e3]at u3;rw[e4]at u4;rw[e5]at u5;have bb:=Y e2;have bc:=Y e3;have bd:=Y e4;have be:=Y e5;have cd:=Y i0;have ce:=Y i1;have bi:=Y<|i.10 x[F[q]] (aH C);have aq:Q (Yo x F[q] v=Cg (x[F[q]].1.map Ph.dst) v):=Y (by unfold Yo;rw[aC C]);have ap:Q (C7 x F[q] v=NA x[F[q]] (XP x F[q]) v):=Y (by unfold C7;rw[aC C]);have ar:Q (x[F[q]].3.tg=Xi (X8 x F[q])):=Y (by rw[WM i.1 C,VS C]);have el:Q (∀z∈X8 x F[q],z<m):=Y (by rw[L.o];exact i.1.tg _ C);have bh:Q (J (XP x F[q])<=8000000):=Y (by unfold XP;rw[aC C];have s:=V8 i ((F[q]:N):I) x[F[q]].3.tg;have h2:=KJ x[F[q]].3;simp only;omega)
 let⟨t,ht⟩:∃t,t=F[q]:=⟨_,R⟩;let⟨P,hX⟩:∃P,P=x[F[q]]:=⟨_,R⟩;let⟨P_,hE⟩:∃P_,P_=XP x F[q]:=⟨_,R⟩;rw[<-hX,<-hE]at b5 ap;rw[<-hX]at V_ u1 u3 u4 u5 bc bd be cd ce bi aq ar;rw[<-hE]at u2 bb bh;rw[<-ht]at a7 fs V_ u1 u2 u3 u4 u5 aq ap ar el;have Q_:=Y ht;clear K A_ eq ht hX hE e0 e1 e2 e3 e4 e5 i0 i1;let⟨g,a8⟩:∃b,b=J P.3.tg:=⟨_,R⟩;let⟨W,a9⟩:∃b,b=J (P.1.map Ph.dst):=⟨_,R⟩;rw[<-a8]at V_;rw[<-a9]at u1;have gf:g<=2:=by rw[a8];exact KJ _
 have gg:W<=4000:=by rw[a9,bK];exact bi.2
 have cn:=Y a8;have eg:=Y a9;clear a8 a9;have du:=bh;generalize fi:J P_=n2 at u2 bb;clear fi;generalize fj:J (Jv P)=n3 at u3 bc;generalize fl:J (Z2 P)=n4 at u4 bd;generalize fn:J (Id P.3)=n5 at u5 be;clear fj fl fn;have I_:Sw (Z wr.1) wr (D wr<|Sc #[X R_ g c0,X V W c1,X a2 n2 c2,X a3 n3 c3,X a4 n4 c4,X a5 n5 c5] 170):=Xb Rf _;have J_:∀q' d,#[X R_ g c0,X V W c1,X a2 n2 c2,X a3 n3 c3,X a4 n4 c4,X a5 n5 c5][q']?=S d->E (D wr<|Sc #[X R_ g c0,X V W c1,X a2 n2 c2,X a3 n3 c3,X a4 n4 c4,X a5 n5 c5] 170) (A (Z wr.1) q')=S d:=λq' d h=>by rw[eC];exact h
 have f0:Z wr.1<Z (D wr<|Sc #[X R_ g c0,X V W c1,X a2 n2 c2,X a3 n3 c3,X a4 n4 c4,X a5 n5 c5] 170).1:=sP;go_wp2_with fail
 clear V_ u1 u2 u3 u4 u5 a7;generalize D wr _=O_ at*;have x0:Cl O_ (Z wr.1) 0 (X R_ g c0):=J_ 0 _ R;have x1:Cl O_ (Z wr.1) 1 (X V W c1):=J_ 1 _ R;have x2:Cl O_ (Z wr.1) 2 (X a2 n2 c2):=J_ 2 _ R;have x3:Cl O_ (Z wr.1) 3 (X a3 n3 c3):=J_ 3 _ R;have x4:Cl O_ (Z wr.1) 4 (X a4 n4 c4):=J_ 4 _ R;have x5:Cl O_ (Z wr.1) 5 (X a5 n5 c5):=J_ 5 _ R;have ds:=Y I_;have ca:=Y<|u.below I_;have ed:=Y<|(ce.at_.keep T).keep (I_.mono O);have ec:=Y<|(cd.at_.keep T).keep (I_.mono O);have b6:=Y (b5.keep (λb' s _=>I_.5 b' s) I_.4);have cb:=Y<|YF V c1 v (P.1.map Ph.dst) 0 (Z w1.1) O_ ed eg O;have b3:=Y<|uv v b6 (Y bi.1) du (X R_ g c0) (X V W c1) bb bc bd be;clear I_ J_;refine YU cb λw3 di=>?_;rw[di];clear di;cases hph:Cg (P.1.map Ph.dst) (v:I)with
 |true=>
  have l:Q (OI x v F<|q+1):=Y (y.go T_<|bC (by rw[<-Q_.o,aq.o];exact hph));clear hph;go_wp2_with fail
  refine⟨?_,SA⟩
  first
   |exact⟨q+1,F,O,gM,l,ca⟩
   |((repeat apply gP);refine⟨?_,R⟩;exact⟨q+1,F,O,gM,l,ca⟩)
 |false=>
  have cr:Q (Yo x t v=Sn):=Y (by rw[aq.o];exact hph);clear hph;go_wp2_with fail
  refine YU b3 λw4 ab=>?_;have ao:=Y<|Xg ds ab;have y0:=oB ab x0 f0;have ea:=Y<|ec.keep (ab.mono O);have gi:=ab.4;have c9:=Vg (v:=(v:I)) (fin:=Cg (Id P.3) (v:I)||Cg P_ v) P.2;have gd:NA P P_ v<=2:=c9;generalize fb:NA P P_ v=mt at*;have Z_:=Y ap.o;clear fb c9 ab x0 x1 x2 x3 x4 x5;have ey:mt=0\/mt=1\/mt=2:=O;obtain rfl|rfl|rfl:=ey
  .have fx:Z wr.1≠o:=O;have E_:=Y<|u.rebase ao;have en:=Y y0;have ek:Q (F[q]?=S t):=Y (by rw[aC T_,Q_.o]);have em:Q (Z w1.1<=o):=Y O;have cp:Q (J (X8 x t)=g):=Y (by rw[cn.o,ar.o];simp[Xi]);have ej:Q ((Hl o lF cF).ownBlock=S o):=Y R;go_wp2_with fail
   clear y0;generalize wr=wp at*
   go_loopw [5,9] (λal aj wr=>∃(b:N)(a:Wa),b<=g/\aj=H b/\Q (OI x v a q)/\Q (a[q]?=S t)/\Q (∀r (h:r<J (X8 x t)),r<b->(X8 x t)[r]∈a)/\Q (TH w4 o wr al<|Xi a)) λ_ aj _=>g-(JB aj).toNat
   .exact⟨0,F,aN,R,y,ek,Y λr _ h=>Sz h O,E_⟩
   clear E_;obtain⟨b,a,hm,rfl,l,aa,ba,j⟩:=hrel;have z0:=j.cell fx en;have bv:=(cV.1 aa).1;have Y_:Q (a[q]=t):=Y (cV.1 aa).2;by_cases c8:b<g;rotate_left
   .have G_:Q (OI x v a<|q+1):=Y (l.go bv (aZ ⟨by rw[Y_.o,Z_.o];decide,λ_ z U_=>by rw[Y_.o]at U_;obtain⟨r,hr,rfl⟩:=bR U_;exact ba r hr<|oN cp.o⟩))
    have HJ:=Y<|u.join ao ej j;go_wp2_with fail
    refine⟨?_,SA⟩
    first
     |exact⟨q+1,a,O,gM,G_,HJ⟩
     |((repeat apply gP);refine⟨?_,R⟩;exact⟨q+1,a,O,gM,G_,HJ⟩)
   have fe:b<J P.3.tg:=by rw[<-cn.o];exact c8
   have fc:b<J (X8 x t):=by rw[cp.o];exact c8
   obtain⟨bt,ot,rfl,⟨_,bn⟩,bo⟩:=ea b fe;have dc:P.3.tg[b]=(((X8 x t)[b]:N):I):=by simp only[ar.o,Xi,cM];rfl
   rw[dc]at bo;have zt:=j.cell (oN em.o) bo;let⟨aG,cG,eG,c7⟩:=Xk j.6;have da:J (Xi a)=J a:=by simp[Xi]
   have ef:=Y (aJ (YS l.1 λz U_=>by have:=l.lt i.1 z U_;have:=L.o;show z<m;omega) hn);let⟨e,bx⟩:∃z,z=(X8 x t)[b]:=⟨_,R⟩;rw[<-bx]at zt;have bl:=Y bx;let⟨l2,ac⟩:∃z,z=J (Xi a):=⟨_,R⟩;rw[<-ac]at eG;subst eG;have gb:l2<=1000:=by rw[ac,da];exact ef
   have cc:=Y<|YF aG cG e (Xi a) o (Z wr.1) wr (Y c7) (Y ac) O;have cg:=Y ac;clear bo dc c7 da bx ac;go_wp2_with fail
   refine YU cc λw5 dj=>?_;rw[dj];clear dj;cases hh:Cg (Xi a) (e:I)with
   |true=>
    have cl:Q (∀r (h:r<J (X8 x t)),r<b+1->(X8 x t)[r]∈a):=Y (λr hr fr=>by
     by_cases f:r=b
     .subst f;rw[<-bl.o];have s:=XD.1 hh;let⟨z,U_,e2⟩:=aY.1 s;have:z=e:=by have e3:(z:I)=e:=e2;omega
      rw[<-this];exact U_
     exact ba r hr O)
    clear hh;go_wp2_with fail
    refine⟨?_,SA⟩
    first
     |exact⟨b+1,a,O,gM,l,aa,cl,j⟩
     |((repeat apply gP);refine⟨?_,R⟩;exact⟨b+1,a,O,gM,l,aa,cl,j⟩)
   |false=>
    have ei:Q (e∉a):=Y (λh=>by have s:Cg (Xi a) e=So:=XD.2<|aY.2 ⟨e,h,R⟩;rw[hh]at s;cases s)
    have cs:=Y (l.push bv (by rw[Y_.o];exact cr) (by rw[Y_.o];exact Z_) (by rw[Y_.o,bl.o];exact aH fc) ei);have cv:Q ((a++[e])[q]?=S t):=Y (by rw[dL bv];exact aa);have cm:Q (∀r (h:r<J (X8 x t)),r<b+1->(X8 x t)[r]∈a++[e]):=Y (λr hr fr=>by
     by_cases f:r=b
     .subst f;rw[<-bl.o];simp
     exact dD _<|ba r hr O)
    clear hh;go_wp2_with (at_builtin;refine YC RH j.6 ?_ (oN cg.o) (oN j.4))
    intro u9 w9 db cz _ cw;have d0:=Y ((j.alloc _).push (x:=(e:I)) cz db (by rw[aO];exact cw));have b7:=Y (by have h:=d0.o;rw[show Xi a++[(e:I)]=Xi (a++[e]) by simp[Xi]]at h;exact h);clear db cz cw z0 zt;go_wp2_with fail
    refine⟨?_,SA⟩
    first
     |exact⟨b+1,a++[e],O,gM,cs,cv,cm,b7⟩
     |((repeat apply gP);refine⟨?_,R⟩;exact⟨b+1,a++[e],O,gM,cs,cv,cm,b7⟩)
  .have dl:=Y (y.hit T_ (by rw[<-Q_.o];exact cr) (by rw[<-Q_.o];exact Z_));go_wp2;go_ret;exact⟨Sn,R,⟨λh=>(by cases h),λh=>Sz dl<|h v ez⟩,b1.trans<|(T.trans<|ao.mono (oN T.4)).mono O⟩
  have G_:=Y (y.go T_<|aZ ⟨by rw[<-Q_.o,Z_.o];decide,λh=>by rw[<-Q_.o,Z_.o]at h;cases h⟩);have E_:=Y<|u.below ao;go_wp2_with fail
  generalize wr=wp at*
  go_loopw [5,9] (λal aj wr=>al=Hl o lF cF/\aj=H 0/\Q (QG wr w4)) λ_ _ _=>0
  .exact⟨R,R,Y R⟩
  obtain⟨rfl,rfl,ct⟩:=hrel;have es:wr=w4:=ct.o;clear ct;subst es;by_cases h0:0<g
  .go_wp2_with fail
   refine⟨?_,SA⟩
   first
    |exact⟨q+1,F,O,gM,G_,E_⟩
    |((repeat apply gP);refine⟨?_,R⟩;exact⟨q+1,F,O,gM,G_,E_⟩)
  go_wp2_with fail
  refine⟨?_,SA⟩
  first
   |exact⟨q+1,F,O,gM,G_,E_⟩
   |((repeat apply gP);refine⟨?_,R⟩;exact⟨q+1,F,O,gM,G_,E_⟩)
theorem KT(v c)(ha:Q (Xp w m k p x))(d:Q (n=J x))(hs:Q (J x+Xx x<=1048576))(K:k<=Z w.1):
 Sk prog 47 #[Sa #[H v,X p n c]] w λj C=>j=Rt (H<|Ft v x)/\Sw (Z w.1) w C:=by
 have e:=Y λW (a:Sw (Z w.1) w W)=>Tr v p n c x m k W (Y<|ha.keep (a.mono K)) d hs (oN a.4);have af:=Y<|WY ⟨v,x⟩;rw[<-af.o]at e;have g:Sw (Z w.1) w (D w<|Sc #[H v,X p n c] 45):=Xb Rf _;have M:E (D w<|Sc #[H v,X p n c] 45) (A (Z w.1) 0)=S (H v):=sP;have P:E (D w<|Sc #[H v,X p n c] 45) (A (Z w.1) 1)=S (X p n c):=sP;have q:Z w.1<Z (D w<|Sc #[H v,X p n c] 45).1:=sP;cases hv:XJ ⟨v,x⟩with
 |false=>
  rw[hv]at e;rw[Uh hv];clear hv
  go_in
  go_wp2_with fail
  refine YU (e _ g) λB b=>?_;have t:=Y<|Xg g b;clear b e g M P q;go_wp2;go_ret;exact⟨R,t⟩
 |true=>
  rw[hv]at e;have T:=Y hv;have Z_:0<=v:=by simp only[XJ,Y6,bY,bD]at hv;omega
  obtain⟨V,rfl⟩:=bX Z_;have f:=Y<|XH hv;have hn:n<=1000:=oP d.o f.1.2;have ar:0<n:=oP d.o f.1.1;generalize aa:Ft V x=L;have G_:=Y aa;clear hv Z_ aa;have ac:=Y λW (a:Sw (Z w.1) w W)=>qt V c (-1) (Y<|ha.keep (a.mono K)) d O O (oN a.4) (Y (d.o▸f.1.3));have ad:=Y λW (a:Sw (Z w.1) w W)=>BN c (Y<|ha.keep (a.mono K)) d (oN a.4) f
  go_in
  go_wp2_with fail
  refine YU (e _ g) λB b=>?_;have t:=Y<|Xg g b;have Q_:=oB b M q;have R_:=oB b P q;have ab:=aX q b.4;clear b g M P q e;go_wp2_with fail
  refine Y7 (λC=>E C (A (Z w.1) 0)=S (H V)/\E C (A (Z w.1) 1)=S (X p n c)) λig=>?_;refine Xn 0 ?_;refine Xn 3 ?_;refine Xn 4 ?_;refine Xn 5 ?_;refine Xs 1 λap hK=>?_;go_simp;refine(ac B.drew t.drew).mono ?_;rintro j w2⟨v2,F,rfl,h,K_,X_,T_⟩;have y:Sw (Z B.1) B w2:=⟨h.1,h.2,h.3,h.4,h.5⟩;rw[show Je F=(Xi F).map (Si S6) by simp[Je,Xi]]at K_;let⟨aF,cF,e2,_⟩:=Xk K_;have U_:J (Xi F)=J F:=by simp[Xi]
  have D_:=Y (uQ f.1 X_ λs=>(T_ s).trans (rf vY));rw[U_]at e2;subst e2;let⟨r,z⟩:∃al,al=J F:=⟨_,R⟩;rw[<-z];have N_:Q (r=n↔Jq x):=Y (by rw[z,d.o];exact D_.2);have aq:r<=n:=by rw[z,d.o];exact D_.1
  have C_:=Y<|Xg t y;have k0:=oB y Q_ ab;have k1:=oB y R_ ab;clear y h K_ X_ T_ U_ z D_ Q_ R_;refine hK _ _ ⟨k0,k1⟩ λig=>?_;clear hK;refine Xn 2 ?_;by_cases o:r=n
  .have M_:=Y<|N_.1 o;have aj:((r:I) != (n:I))=Sn:=by simp[o]
   clear o;refine Xn 6 ?_;refine Yq ?_;clear ig;go_wp2_with fail
   refine(ad w2 C_).mono ?_;rintro j w3⟨ao,rfl,Y_,S_⟩;have O_:=Y<|Xg C_ S_;have P_:=Y Y_;clear Y_ S_;cases ao with
   |true=>
    have i:Q (L=0):=Y (G_.o▸uP T M_ (λl=>by let⟨s,u⟩:=l;exact P_.1 R s (wH f u) u))
    go_wp2;go_ret;exact⟨by rw[i.o];rfl,O_⟩
   |false=>
    have i:Q (L=11):=Y (G_.o▸qg T M_ (dQ λl=>by have:=P_.2 λs _ u=>l ⟨s,u⟩;cases this))
    go_wp2;go_ret;exact⟨by rw[i.o];rfl,O_⟩
  have i:Q (L=10):=Y (G_.o▸t9 T λl=>o<|N_.2 l);have aj:((r:I) != (n:I))=So:=SB
  clear o;refine Xn 6 ?_;refine Yq ?_;clear ig;go_wp2;go_ret;exact⟨by rw[i.o];rfl,C_⟩
abbrev As:=@Ps 177<|aZ (aZ R)
abbrev AY:=@Pu 179<|aZ (aZ R)
abbrev AF:=@P7 134<|aZ R
abbrev A7:=@P5 143<|aZ R
section
open Go.Lib
theorem GA(z:E w (A n m)=S (H k))(C:1<=k)(K:k<=13)(v:Q (Yy w)):
 Sk prog 137 #[Ho n m] w λf g=>∃B,f=Rt B/\Sw (Z w.1) w g/\Sx g (Z w.1) 257 1 B (J (Yd [dB (k:I),aB (k:I),bB (k:I)] [(A n<|m+1),(A n<|m+2),(A n<|m+3)])) ((Yd [dB (k:I),aB (k:I),bB (k:I)] [(A n<|m+1),(A n<|m+2),(A n<|m+3)]).map Tx):=by
 obtain⟨c0,c1,c2,c3,c4⟩:=v.2 k C K;have Q_:=v.1;have O_:n<Z w.1:=aI w _ z;generalize dB k=d at*;generalize aB k=b at*;generalize bB k=c at*;generalize iB k=M at*
 go_in
 go_wp2_with fail
 have L:(λh:Ub=>Z h.1=Z w.1+1/\E h (A (Z w.1) 1)=S (Sb d)/\E h (A (Z w.1) 2)=S (Sb b)/\E h (A (Z w.1) 3)=S (Sb c)/\Q (Sw (Z w.1) w h)) (D w<|Sc #[Sg (K8<|bz k),Sb d,Sb b,Sb c,Sb M] 247):=⟨sP,sP,sP,sP,Y<|Xb Rf _⟩;generalize D w _=a at*;obtain⟨e1,P,T,F,r⟩:=L;clear z c0 c1 c2 c3 c4;have N_:=Y e1;have p:Z w.1<Z a.1:=O;clear e1;have o:Q (∀(l i:Uy)(W:Ub),Sw (Z a.1) a W->Zx W (Z a.1) (Z W.1) l ([d,b,c].map Sb)->Zx W (Z a.1) (Z W.1) i ([(A n<|m+1),(A n<|m+2),(A n<|m+3)].map Tx)->Sk prog 180 #[X l 3 3,X i 3 3] W λf e=>∃v5,f=Rt v5/\E e (A (Z w.1) 1)=S (Sb d)/\E e (A (Z w.1) 2)=S (Sb b)/\E e (A (Z w.1) 3)=S (Sb c) /\
  Q (Sw (Z w.1) w e)/\Q (Sx e (Z w.1) 257 1 v5 (J (Yd [d,b,c] [(A n<|m+1),(A n<|m+2),(A n<|m+3)])) ((Yd [d,b,c] [(A n<|m+1),(A n<|m+2),(A n<|m+3)]).map Tx))):=Y (λl i W t V L_=>by
  have P_:=t.4;refine(UA l i 3 3 [d,b,c] [(A n<|m+1),(A n<|m+2),(A n<|m+3)] (Z a.1) (Z W.1) W aA (Y V) (Y L_) (Y R) sP).mono ?_;rintro f e⟨v5,rfl,u,K_⟩;have s5:=u.4;have j:=Xg t u;exact⟨v5,R,oB j P p,oB j T p,oB j F p,Y<|r.trans (j.mono O),Y<|Zk K_ O⟩)
 have e2:∀x y,Z (D (D a x) y).drew.1=Z a.1+2:=λx y=>by show Z (D (D a x) y).1=_;simp
 have B_:=Y (o.o (S ⟨Z a.1,0,U⟩) (S ⟨Z a.1+1,0,U⟩) (D (D a<|Sc #[Sb d,Sb b,Sb c] 4) (Sc #[Ho n<|m+1,Ho n<|m+2,Ho n<|m+3] 257)).drew (Xb (Xb (dC (Z a.1) a) _) _).drew (by rw[e2];exact J7 a [Sb d,Sb b,Sb c] 4 [Ho n<|m+1,Ho n<|m+2,Ho n<|m+3] 257) (by rw[e2];exact J6 a [Ho n<|m+1,Ho n<|m+2,Ho n<|m+3] 257 [Sb d,Sb b,Sb c] 4));have C_:=Y (o.o (S ⟨Z a.1+1,0,U⟩) (S ⟨Z a.1,0,U⟩) (D (D a<|Sc #[Ho n<|m+1,Ho n<|m+2,Ho n<|m+3] 257) (Sc #[Sb d,Sb b,Sb c] 4)).drew (Xb (Xb (dC (Z a.1) a) _) _).drew (by rw[e2];exact J6 a [Sb d,Sb b,Sb c] 4 [Ho n<|m+1,Ho n<|m+2,Ho n<|m+3] 257) (by rw[e2];exact J7 a [Ho n<|m+1,Ho n<|m+2,Ho n<|m+3] 257 [Sb d,Sb b,Sb c] 4));clear o r e2
 go_region_held3 (λg=>E g (A (Z w.1) 1)=S (Sb d)/\E g (A (Z w.1) 2)=S (Sb b)/\E g (A (Z w.1) 3)=S (Sb c)) (go_keep)
  (first
   |(go_at_call 180;with_reducible refine B_.o.mono ?_;rintro f e⟨v5,rfl,f1,f2,f3,q,s⟩)
   |(go_at_call 180;with_reducible refine C_.o.mono ?_;rintro f e⟨v5,rfl,f1,f2,f3,q,s⟩))
 all_goals
  go_wp2;go_ret;exact⟨_,R,q,s⟩
theorem Ie{c a}(h:YY w n m (S c) a):∀(j:N)(u:Uj),(ZP a)[j]?=S u->E w (c.add j)=S u:=by
 intro j u b;have f:j<J (ZP a):=by
  obtain h|h:=mL j (J (ZP a));·exact h
  rw[dK h]at b;cases b
 have d:j/5<J a:=by rw[iR]at f;omega
 let⟨g,o,e,_,c0,c1,c2,c3,c4⟩:=h (j/5) d;cases e;have e2:=Xz (sz:=5) (f:=λ_ (x:Yg)=>[H x.1,H x.2,H x.a,H x.b,H x.5]) (λ_ _=>R) 0 a (j/5) d (j%5) (dS _ O);rw[<-rH a 0,show j/5*5+j%5=j by omega,b]at e2;have ha:((A g o):Addr).add j=(A g<|o+j):=by cases j<;>simp[Addr.add]
 rw[ha];have i:j%5=0\/j%5=1\/j%5=2\/j%5=3\/j%5=4:=O;obtain q|q|q|q|q:=i<;>rw[q]at e2<;>cases e2;·rw[show o+j=o+j/5*5 by omega];exact c0
 .rw[show o+j=o+j/5*5+1 by omega];exact c1
 .rw[show o+j=o+j/5*5+2 by omega];exact c2
 .rw[show o+j=o+j/5*5+3 by omega];exact c3
 rw[show o+j=o+j/5*5+4 by omega];exact c4
theorem GM(c){a}(i:Q (YY w m k p a))(j:Q (n=J a))(P:n<=1048576)(y:k<=Z w.1):
 Sk prog 135 #[X p n c] w λe l=>∃v,e=Rt v/\Sw (Z w.1) w l/\Sx l (Z w.1) 62 5 v (J a) (ZP a):=by
 have L:∀(w:Ub)(p:Uy)(n c d b:N),(binOp .eql 56 (X p n c) (X U d b)).run prog w=.ok (Sb p.isNone) w:=λw p n c d b=>Lib.run_eql_slice_nil w _ _ p n c d b underlying56;cases p with
 |none=>
  have x:a=[]:=by
   cases a with
   |nil=>rfl
   |cons T M=>let⟨V,K,e,_⟩:=i 0 sP;cases e
  subst x
  go_in
  go_wp2;go_ret;exact⟨_,R,Rf,dA⟩
 |some u=>
  have t:=Y<|l7 a;have q:=Y<|iR a;have f:Q (Sx (D w<|Sc #[] 62) (Z w.1) 62 5 (Hl (Z w.1) 0 0) 0 []):=Y (by have:=eI (base:=Z w.1) (e:=62) (size:=5) w #[] 0 sP sP R;simpa using this)
  have r:=Y<|Ie (i.keep<|vT (dC k w) y (Sc #[] 62))
  go_in
  go_wp2_with (at_builtin;refine YB (n:=0) (xs:=[]) RB f r t ?_ (hl:=by rw[q.o,j.o]))
  intro C F h g B z;have o:=Y<|Xy (vT Rf aA _) g f aA sP;have s:Q (Sx F (Z w.1) 62 5 C (J a)<|ZP a):=Y (by rw[<-j.o];simpa using h);go_wp2;go_ret;exact⟨_,R,o,s⟩
end
def FSx:List Bool->List N->List N
 |k::ks,p::ps=>if k then p::FSx ks ps else FSx ks ps
 |_,_=>[]
theorem rG(g:N):∀(a:List Bool)(b:Wa),(Yd a<|b.map λo=>(A g o)).map Tx=(FSx a b).map λo=>Tx (A g o)
 |[],_=>by simp[Yd,FSx]
 |k::a,[]=>by simp[Yd,FSx]
 |k::a,o::b=>by cases k<;>simp[Yd,FSx,rG g a b]
theorem xR(a:Wc)(P:Wo):∀(b:Wa)(c:Wo),lP a (b.map λo=>J P+o) (P++c)=P++lP a b c
 |[],_=>R
 |o::b,c=>by show lP a (b.map λo=>J P+o) ((P++c).set (J P+o) (jr a (P++c)[J P+o]?))=P++lP a b (c.set o<|jr a c[o]?);rw[Hu _ _ O,eV O,uB,xR a P b]
theorem H9{x}:lP l (FSx [dB x.1,aB x.1,bB x.1] [1,2,3]) (Yg.cells x++y)=Yg.cells (ZR l x)++y:=by unfold ZR Yg.cells;cases dB x.1<;>cases aB x.1<;>cases bB x.1<;>rfl
theorem xG{a x}{B:Vr}:ZP (a++x::B)=ZP a++(Yg.cells x++ZP B):=by rw[j7,rM];rfl
theorem Ii(a)(b:Vr)(x)(B:Vr):lP a (FSx [dB x.1,aB x.1,bB x.1] [J b*5+1,J b*5+2,J b*5+3]) (ZP (b++x::B))=ZP (b++ZR a x::B):=by
 have e:FSx [dB x.1,aB x.1,bB x.1] [J b*5+1,J b*5+2,J b*5+3]=(FSx [dB x.1,aB x.1,bB x.1] [1,2,3]).map λo=>J (ZP b)+o:=by rw[iR];cases dB x.1<;>cases aB x.1<;>cases bB x.1<;>rfl
 rw[e,xG,xR,H9,<-xG]
theorem xx(b g){q}:∀(a:Wa)(w:Ub),q∉a->E (recW b g a w) (A g q)=E w (A g q)
 |[],_,_=>R
 |o::a,w,h=>by show E (recW b g a _) _=_;rw[xx b g a _ λc=>h<|cN _ c];have:o≠q:=λe=>h (by rw[e];exact cI);exact @cJ w.drew _ _ _ λe=>this<|by injection e
theorem yi{cs:Wc}(h:∀o∈s,∃z:N,E w (A g o)=S (H z)/\z<J cs)(c:s.Nodup):∀j (h:j<J s),∃z:N,E (recW cs g (s.take j) w) (A g<|s[j])=S (H z)/\z<J cs:=λj f=>by
 let⟨z,a,b⟩:=h _<|aH f;refine⟨z,?_,b⟩;rw[xx cs g _ _ λi=>?_];·exact a
 let⟨k,d,e⟩:=bR i;rw[jG]at e;rw[dH]at d;have:=(List.getElem_inj c).1 e;omega
theorem Iz(g:n=J l){x}(a:∀v∈Iw x,0<=v/\v<n)(c:∀v∈BW x,0<=v/\v<n)(e:Jk w m k x):∀q∈FSx [dB x.1,aB x.1,bB x.1] [k+1,k+2,k+3],∃z:N,E w (A m q)=S (H z)/\z<J l:=by
 let⟨_,c1,c2,c3,_⟩:=e;have b:∀(v:I)(q:N),E w (A m q)=S (H v)->0<=v/\v<n->∃z:N,E w (A m q)=S (H z)/\z<J l:=λv q d h=>⟨v.toNat,by rw[d];congr 2;omega,O⟩
 unfold Iw at a;unfold BW at c;intro q hq;have f:(dB x.1=So/\q=k+1)\/(aB x.1=So/\q=k+2)\/(bB x.1=So/\q=k+3):=by revert hq;cases dB x.1<;>cases aB x.1<;>cases bB x.1<;>simp[FSx]
 obtain⟨hu,rfl⟩|⟨hu,rfl⟩|⟨hu,rfl⟩:=f;·exact b _ _ c1<|c _ (by simp[hu])
 .exact b _ _ c2<|a _ (by simp[hu])
 exact b _ _ c3<|a _ (by simp[hu])
theorem GJ{a b}:(FSx [r,a,b] [n+1,n+2,n+3]).Nodup:=by cases r<;>cases a<;>cases b<;>simp[FSx]
theorem Ig(a b c o):∀q∈FSx [a,b,c] [o+1,o+2,o+3],o<q/\q<o+4:=by cases a<;>cases b<;>cases c<;>simp[FSx]<;>omega
