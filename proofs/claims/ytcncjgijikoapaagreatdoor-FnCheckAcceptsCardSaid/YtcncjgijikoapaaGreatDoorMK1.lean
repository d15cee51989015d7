import Derived.Test.YtcncjgijikoapaaGreatDoorDT0
import Derived.Test.YtcncjgijikoapaaGreatDoorMT1
namespace Go.Proofs.YtcncjgijikoapaaGreatDoor
set_option maxHeartbeats 4000000
set_option maxRecDepth 1000000
open _root_ renaming List.length->J,Nat->N,Int->I,rfl->R,Option.some->S,Bool.true->So,Bool.false->Sn,absurd->Sz,Array.size->Z,Option.none->U,List.range->Rg,trivial->JV
open Go renaming World.cell?->E,Ending.returned->Rt,Calls->Sk,RowKit.intOf->JB,World.alloc->D,World.setCell->Se,IntKind.i64->S6,Obj.cells->Sc,undef->Su,RowKit.Below->Sw,World.ownsRow->Sx
open Value renaming slice->X,bool->Sb,int->Si,agg->Sa,pointer->Sj
open Go.RowKit Go.Proofs.Tryz
variable{t T z:I}{n m k B g i j c:N}{w v:Ub}{a A_:Uj}{p P:Uy}{s:Wa}{x:Wi}{y:Wo}
def P2(C:Ym)(l:Wa)(c j:N):Prop:=∀i (h:i<J l),i<j->C l[i]≠(c:I)
theorem Mp{C}:P2 C s c 0:=λi _ h=>Sz h O
def Ap(C:Ym)(l:Wa)(c:N):Prop:=∀a,a < c->∃u∈l,C u=(a:I)
def Pw(C:Ym)(l:Wa)(c j:N)(b:Bool):Prop:=(b=So->P2 C l c j)/\(b=Sn->∃u∈l,C u=(c:I))
theorem yH(y:Uy)(M C)(x:Uy)(c)(w:Ub)(F:Q (∀u,u<n->∃b o,y=S (A b o)/\E w (A b<|o+u)=S (H<|C u)))(ha:Q (∀i (h:i<J s),∃b o,x=S (A b o)/\E w (A b<|o+i)=S (H (s[i]:I))))(k:Q (m=J s))(R_:m<=1048576)(P:Q (∀u∈s,u<n)):
 Sk prog 74 #[X y n M,X x m c] w λe K=>e=Rt (H (Nx C s:I))/\K=w:=by
 go_in
 go_wp2
 go_loop [5] (λi=>∃q:N,q<=m/\i=H q/\Q (Ap C s q)) λi=>m-(JB i).toNat
 .exact⟨0,aN,R,Y λp h=>Sz h O⟩
 obtain⟨q,hq,rfl,l⟩:=hrel;by_cases Q_:q<m;rotate_left
 .have T:q=m:=O
  subst T;have f:Q (Nx C s=q):=Y (by have h:=wL (C:=C) (l:=s) (k.o▸l);rw[k.o];exact ry h)
  go_wp2;go_ret;exact⟨by rw[f.o];rfl,R⟩
 go_wp2
 go_loop [6,7] (λb i=>∃(a:Bool)(j:N),b=Sb a/\j<=m/\i=H j/\Q (Pw C s q j a)) λ_ i=>m-(JB i).toNat
 .exact⟨So,0,R,aN,R,Y ⟨λ_=>Mp,λh=>by cases h⟩⟩
 obtain⟨a,j,rfl,O_,rfl,d⟩:=hrel;by_cases V:j<m
 .have z:j<J s:=k.o▸V
  obtain⟨b,o,rfl,L_⟩:=ha j z;have t:=aH z;have v:=P _ t;obtain⟨b2,T_,rfl,e1⟩:=F _ v;have W:Q (C s[j]=(q:I)->Pw C s q (j+1) Sn):=Y (λe=>⟨λh=>(by cases h),λ_=>⟨_,t,e⟩⟩);have B:Q (C s[j]≠(q:I)->Pw C s q (j+1) a):=Y (λe=>⟨λh i g M_=>by
   by_cases e2:i=j;·subst e2;exact e
   exact d.1 h i g O,d.2⟩)
  generalize s[j]=u at*;generalize C u=L at*;have P_:(j:I)<m:=O;have S_:(u:I)<n:=O;by_cases r:L=(q:I)
  .subst r;go_wp2;exact⟨⟨Sn,j+1,R,O,gM,Y<|W.o R⟩,SA⟩
  have N_:(L==(q:I))=Sn:=by rw[iS];exact r
  go_wp2;exact⟨⟨a,j+1,R,O,gM,Y<|B.o r⟩,SA⟩
 have G_:j=m:=O;subst G_;cases a with
 |true=>
  have f:Q (Nx C s=q):=Y (ry ⟨λu v e=>by obtain⟨i,g,rfl⟩:=bR v;exact d.1 R i g (k.o▸g) e,l⟩)
  go_wp2;go_ret;exact⟨by rw[f.o];rfl,R⟩
 |false=>
  have f:Q (Ap C s<|q+1):=Y (λp h=>by
   by_cases e:p=q;·subst e;exact d.2 R
   exact l p O)
  go_wp2;exact⟨⟨q+1,O,gM,f⟩,SA⟩
theorem I9(c)(ha:Q (Xp w m k p x))(j:Q (n=J x))(hs:Q (J x+Xx x<=1048576))(hB:k<=Z w.1)(hv:Q (XJ ⟨t,x⟩=So)):
 Sk prog 73 #[Sa #[H t,X p n c]] w λl Q_=>∃P a1 c1 a2 c2 a3 c3 a4 c4,l=Rt (Sa #[X a1 n c1,X a2 n c2,X a3 n c3,X a4 (J (XT P n 0)) c4])/\Sw (Z w.1) w Q_/\YX (X8 x) n P/\MX Q_ (Z w.1) (Z Q_.1) (Pq x) (Pe x) P (Xi<|XT P n 0) a1 a2 a3 a4:=by
 have M:=Y<|Wz hv;have T:n<=1000:=oP M.2 j.o;have ap:0<n:=oP M.1 j.o;have b0:Q (∀V,Re (X8 x) V->V<n):=Y (j.o▸M.re);have a6:=Y λW (g:Sw (Z w.1) w W)=>Tr t p n c x m k W (Y<|ha.keep (g.mono hB)) j hs (oN g.4);rw[<-WY,hv.o]at a6
 go_in
 go_wp2_with fail
 refine YU (a6 _ (by first|exact Rf|exact Xb Rf _|exact Xb (Xb Rf _) _)) λa V_=>?_;obtain⟨ba,dw⟩:=NC V_;have k0:E a (A (Z w.1) 0)=S (H t):=by rw[ba _ _<|by simp;omega];simp[go_sem]
 have k1:E a (A (Z w.1) 1)=S (X p n c):=by rw[ba _ _<|by simp;omega];simp[go_sem]
 have ac:=Y<|Xg (Xb (Xb (dC (Z w.1) w) _) _) V_;have f0:Z w.1+2<=Z a.1:=by have:=V_.4;simp at this;omega
 have bx:Q (a.rowIs (Z w.1+1) 161 4 λ_=>Hq):=Y (by
  have aj:=eK (D w<|Sc #[H t,X p n c] 25) #[Hq,Hq,Hq,Hq] 161 (λ_=>Hq) (λi o=>by
   match i,o with
   |0,_=>rfl
   |1,_=>rfl
   |2,_=>rfl
   |3,_=>rfl)
  rw[aO]at aj;exact aj.of_block<|V_.5 _ sP)
 clear ba dw V_;have s:Z w.1<Z a.1:=O;go_wp2_with fail
 refine((Y λW (g:Sw (Z w.1) w W) z=>qt t c z (Y<|ha.keep (g.mono hB)) j T ap (oN g.4) (Y (j.o▸M.3))) _ (Xb ac _) (-1)).mono ?_;rintro l v⟨v2,F,rfl,M_,cn,cm,ck⟩;obtain⟨a2,df,rfl,al⟩:=Xk (xs:=Xi F) (qr▸cn);have bt:=Y λV=>(ck V).trans (rf vY);have ea:J (Xi F)<=1000:=by rw[Y0];exact aJ (YS cm λV j=>b0 V<|(bt V).1 j) T
 have f4:Z a.1+1<=Z v.1:=by have:=M_.4;simp at this;omega
 have cr:=Y (by simpa using al);have er:=Y<|Xg (Xb ac<|Sc #[Hq,Hq,Hq,Hq] 161) M_;have bo:Q (Oa a v v (λ_=>Hq) (λz=>Sb (Cg (Xi F) z)) (λi:N=>AQ x 0 i) 0 0 U 0 0 U 0):=Y (by
  have h0:OE a (D a<|Sc #[Hq,Hq,Hq,Hq] 161) (Z a.1) Hq Hq (λ_=>Hq) (λz=>Sb (Cg (Xi F) z)) 0 U 0 0 U 0 :=
   ⟨SC,SC,SC,SC,λu=>(eK a #[Hq,Hq,Hq,Hq] 161 (λi=>#[Hq,Hq,Hq,Hq].getD i Su) λi o=>by simp[Array.getElem?_eq_getElem o]).frozen u,Xb Rf _,sP,R,dA,dA,bC R⟩
  exact⟨h0.below M_,λi o=>Sz o<|wA _,YA.refl _ _ _,λd Y_=>(by obtain l|l:=Y_<;>cases l),aA⟩)
 have es:Q (E v (A (Z w.1) 0)=S (H t)/\E v (A (Z w.1) 1)=S (X p n c)):=Y ⟨oB M_ (G (bP a _ (A (Z w.1) 0) s) k0) (by show Z w.1<_;simp;omega),oB M_ (G (bP a _ (A (Z w.1) 1) s) k1) (by show Z w.1<_;simp;omega)⟩;clear M_ cn al ck cm;obtain⟨lF,bb⟩:∃lF,lF=J (Xi F):=⟨_,R⟩;rw[<-bb]at ea |-;have cs:=Y bb;have ad:Q (E a (A (Z w.1) 0)=S (H t)/\E a (A (Z w.1) 1)=S (X p n c)):=Y ⟨k0,k1⟩;clear bb k0 k1;go_wp2
 go_loopw [5] (λab wr=>∃(b:N)(N_:Uy)(c1:N)(O_:Uy)(c2:N)(af:Vu),b<=n/\ab=H b/\Q (Oa a v wr af (λz=>Sb (Cg (Xi F) z)) (λi:N=>AQ x 0 i) b b N_ c1 b O_ c2)) λab _=>n-(JB ab).toNat
 .exact⟨0,U,0,U,0,_,aN,R,bo⟩
 obtain⟨b,N_,c1,O_,c2,af,e7,rfl,C⟩:=hrel;have fz:=C.1.7;have cj:Z w.1<Z wr.1:=O;have bm:=Y<|ac.trans (C.1.6.mono O);have g0:=oB C.1.6 ad.1 s;have E_:=oB C.1.6 ad.2 s;by_cases fj:b<n
 .have m0:=C.1.1;have cw:=Y<|C.below (dC (Z wr.1) wr).drew;have co:=Y bm.drew;have fr:J (AQ x 0 b)<=1000:=aJ (YO _ _ _) (oN j.o);have cl:Z w.1≠Z a.1:=O;go_wp2_with fail
  refine Y7 (λQ_=>E Q_ (A (Z w.1) 0)=S (H t)/\E Q_ (A (Z w.1) 1)=S (X p n c)) λig=>?_;refine Xn 0 ?_;refine Xn 2 ?_;refine Xn 3 ?_;refine eS (rs:=[1,4]) vZ sP ?_;refine(bQ R (λK hK=>?_) (bQ R (λK hK=>?_) dY))
  focus
   go_simp;refine hK _ _ kP λig=>?_;clear hK
   refine Xs 4 λK hK=>?_
  all_goals (
   go_simp
   go_at_call 68
   refine((Y λW (g:Sw (Z w.1) w W) u=>ZE t c u (Y<|ha.keep (g.mono hB)) j O (oN g.4)) _ co b).mono ?_;rintro l e⟨ua,uc,rfl,B,ci⟩;have R_:=Y<|cw.newU (u:=X ua (J (AQ x 0 b)) uc) (uc:=uc) B R ci;have y0:=R_.1.1;have yl:=R_.1.7;have bh:=oB B g0 cj;have bi:=oB B E_ cj;have az:Z wr.1<=Z e.1:=B.4;clear B ci;generalize J (AQ x 0 b)=ul at*;refine hK _ _ ⟨bh,bi⟩ λig=>?_;clear hK;refine Xn 5 ?_)
  rotate_left;refine eS (rs:=[1,6]) vZ sP ?_;refine(bQ R (λK hK=>?_) (bQ R (λK hK=>?_) dY))
  focus
   go_simp;refine hK _ _ kP λig=>?_;clear hK
  rotate_left
  all_goals (
   try (refine eS (rs:=[6]) vZ sP ?_;refine bQ R (λK hK=>?_) dY)
   go_simp;refine hK _ _ kP λig=>?_;clear hK
   skip)
  focus
   refine Xs 1 λK hK=>?_;go_simp;refine hK _ _ kP λig=>?_;clear hK
  all_goals (
   refine Xs 7 λK hK=>?_;refine YI QQ R_.1.9 ?_
   intro v8 w8 be cg _ cb;obtain⟨g8,c8,rfl,fc,_⟩:=Xm be O;obtain⟨b8,b3,b6,a9⟩:=R_.app1 cg (by rw[aU R];exact be) (by simpa using cb);have z0:=G (b3 0) R_.1.1;have zf:=b6 0;have za:=oB a9 bh s;have zb:=oB a9 bi s;have a0:=Y b8;clear be cg cb b8 b3 b6 a9;refine hK _ _ ⟨za,zb⟩ λig=>?_;clear hK;refine Xn 8 ?_;refine Xs 9 λK hK=>?_;go_simp;refine hK _ _ ⟨G (Xc<|cY cl) za,G (Xc<|cY cl) zb⟩ λig=>?_;clear hK;refine Yq ?_;clear ig z0 zf za zb y0 yl bh bi m0;generalize Se w8 _ _=w9 at*;have S_:=Y<|a0.below (dC (Z w9.1) w9).drew;have x1:=a0.1.2;have xl:=a0.1.7;have bp:=Y λW (aj:YA (Z a.1+1) (Z v.1) v W)=>YF a2 df b (Xi F) (Z a.1+1) (Z v.1) W (Y<|cr.keepS aj) cs O;go_wp2_with fail
   refine Y7 (λ_=>True) λig=>?_;refine Xn 0 ?_;refine Xn 2 ?_;refine Xn 3 ?_;refine eS (rs:=[1,4]) vZ sP ?_;refine(bQ R (λK hK=>?_) (bQ R (λK hK=>?_) dY));go_simp;refine hK _ _ kP λig=>?_;clear hK
   refine Xs 4 λK hK=>?_;go_simp
   go_at_call 88
   refine YU (bp _ S_.3) λep bf=>?_;subst bf;refine hK _ _ JV λig=>?_;clear hK;refine Xs 5 λK hK=>?_;go_simp;refine hK _ _ kP λig=>?_;clear hK;rotate_left;go_simp
   go_at_call 88
   refine YU (bp _ S_.3) λep bf=>?_;subst bf;refine hK _ _ JV λig=>?_;clear hK
   refine eS (rs:=[1,5]) vZ sP ?_;refine(bQ R (λK hK=>?_) (bQ R (λK hK=>?_) dY));go_simp;refine hK _ _ kP λig=>?_;clear hK
   refine Xs 5 λK hK=>?_;go_simp;refine hK _ _ kP λig=>?_;clear hK;rotate_left;go_simp;refine hK _ _ kP λig=>?_;clear hK
   refine Xs 1 λK hK=>?_;go_simp;refine hK _ _ kP λig=>?_;clear hK
   all_goals (
    refine Xs 6 λK hK=>?_;refine YI Q7 S_.1.o2 ?_
    intro gb eq bd ce _ ca;obtain⟨ez,dd,rfl,e9,_⟩:=Xm bd O;obtain⟨b7,b1,b5,ds⟩:=S_.app2 ce bd (by simpa using ca);have z0:=G (b1 1) S_.1.2;have zf:=b5 1;have ct:=Y b7;clear bd ce ca b7 b1 b5 ds;refine hK _ _ JV λig=>?_;clear hK;refine Xn 7 ?_;refine Xs 8 λK hK=>?_;go_simp;refine hK _ _ JV λig=>?_;clear hK;refine Yq ?_;clear ig z0 zf;generalize Se eq _ _=gd at*;go_wp2
    exact⟨⟨b+1,_,c8,_,dd,_,O,gM,ct⟩,SA⟩))
 have dn:n=b:=O;subst dn;have bn:=Y ((Y λW (g:Sw (Z w.1) w W)=>Di t c (Y<|ha.keep (g.mono hB)) j (oN g.4) M).o wr bm);go_wp2_with fail
 refine bn.mono ?_;rintro l w3⟨da,dc,rfl,a7,cd⟩;have J_:Q (YX (X8 x) n ((Rg n).map (L0<|(Rg n).map (Zq (X8 x) n)))):=Y (by rw[j.o];exact M.model);have br:=Y (CT da dc ((Rg n).map (Zq (X8 x) n)) (Z wr.1) (Y<|by rw[jO];exact cd) (Y sP) T aA (Y (λga hl=>by obtain⟨b,_,rfl⟩:=aY.1 hl;exact⟨aJ (rr n b) T,λp ha=>(Jo.1 ha).1⟩)))
 have cv:=Y<|C.below a7;have f5:=a7.4;clear a7 cd;go_wp2_with fail
 refine br.mono ?_;rintro l h⟨v4,rfl,a8,aq⟩;obtain⟨P,hP⟩:∃P,P=(Rg n).map (L0<|(Rg n).map (Zq (X8 x) n)):=⟨_,R⟩;rw[<-hP]at J_ aq;obtain⟨y,c3,rfl,fb,_⟩:=Xm aq ap;have f:=Y<|cv.below a8;have cx:=Y aq;have f6:=a8.4;have t2:=f.1.3;have t3:=f.1.4;have tz:=f.1.5;have e0:=oB f.1.6 ad.1 s;have e6:=oB f.1.6 ad.2 s;have fn:Z w.1≠Z a.1:=O;have fq:Z a.1≠Z w.1:=O;clear a8 aq hP g0 E_;have t0:=f.1.1;have t1:=f.1.2;have fs:Q (J (P.map<|Si S6)=n*1):=Y (by simp[J_.1]);have bq:Q (Xf h (Z w3.1) (Z h.1) (S ⟨y,0,U⟩) P):=Y (by obtain⟨a',c',eg,ch⟩:=Xk cx;injection eg with e1;rw[e1];exact ch)
 have fi:=f.1.7;have fe:Z a.1<Z w3.1:=O;have dl:=Y<|bx.of_block (f.1.6.5 _ bx.lt);have bv:=Y (λW (hW:W=Se h (A (Z a.1) 2) (Hl y n c3))=>Me (S ⟨y,0,U⟩) c3 (Z w3.1) (Z h.1) (Y J_.1.symm) T (Re<|X8 x) (Y λb c _ hc=>(Kf J_ hc).1.2) (Y λeo b g=>aJ (o9 J_ b0 eo g) T) n 0 W (Y<|bq.keepS λd T_ L=>by rw[hW];exact cY<|by dsimp only;omega) (by rw[hW,Xd];exact aA) (Y Re.root) T);go_wp2_with fail
 obtain⟨e,r⟩:∃e,e=Se h (A (Z a.1) 2) (Hl y n c3):=⟨_,R⟩;rw[<-r];have B:∀d,d≠Z a.1->e.1[d]?=h.1[d]?:=λd Y_=>by rw[r];exact cY Y_
 have az:Z e.1=Z h.1:=by rw[r,Xd]
 have s2:E e (A (Z a.1) 2)=S (Hl y n c3):=by rw[r];exact fQ _ _ _ t2
 have s0:E e (A (Z a.1) 0)=S (X N_ n c1):=by rw[r];exact G (XL _ _ O _) t0
 have s1:E e (A (Z a.1) 1)=S (X O_ n c2):=by rw[r];exact G (XL _ _ O _) t1
 have s3:E e (A (Z a.1) 3)=S Hq:=by rw[r];exact G (XL _ _ O _) t3
 have sz:∀u,e.frozen? (A (Z a.1) u)=Sn:=λu=>by rw[r,eX];exact tz u
 have ar:e.4=h.4/\e.2=h.2/\e.5=h.5:=by rw[r];exact⟨R,R,R⟩
 have ee:0<J (XT P n 0):=by cases n<;>simp[XT]
 refine(bv e r).mono ?_;rintro l w6⟨v6,rfl,q,bc⟩;obtain⟨L_,c4,rfl,cf,_⟩:=Xm bc ee;have cz:=Y bc;have aa:Z a.1<Z e.1:=O;have r0:=oB q s0 aa;have r1:=oB q s1 aa;have r2:=oB q s2 aa;have r3:=oB q s3 aa;have rz:=λu=>G (bJ<|q.5 _ aa) (sz u);have bl:Q (∀d,d<Z h.1->d≠Z a.1->w6.1[d]?=h.1[d]?):=Y λd T_ L=>G (q.5 d O) (B d L);have a5:Q (w6.4=h.4/\w6.2=h.2/\w6.5=h.5):=Y ⟨G q.1 ar.1,G q.2 ar.2.1,G q.3 ar.2.2⟩;have f7:=q.4;have G_:=dl.of_block<|bl _ O O;have y0:=G_.cell (i:=0) vY;have y1:=G_.cell (i:=1) vY;have y2:=G_.cell (i:=2) vY;have y3:=G_.cell (i:=3) vY;have yf:=G_.frozen;have fl:Z a.1≠Z w.1+1:=O;have eb:Z w.1+1≠Z a.1:=O;have c7:=Y G_;have cq:=Y cf;have db:=Y az;generalize hQ:J (XT P n 0)=ql at*;have HQ:=Y hQ;clear r B s0 s1 s2 s3 sz ar q bc t0 t1 t2 t3 tz G_ az hQ;go_wp2_with fail
 obtain⟨wE,hE⟩:∃wE,wE=Se (Se (Se (Se (Se w6 (A (Z a.1) 3) (Hl L_ ql c4)) (A (Z w.1+1) 0) (X N_ n c1)) (A (Z w.1+1) 1) (X O_ n c2)) (A (Z w.1+1) 2) (Hl y n c3)) (A (Z w.1+1) 3) (Hl L_ ql c4):=⟨_,R⟩;rw[<-hE];obtain⟨z0,z1,z2,z3,cc,fx,ec,ef,ed⟩:=xq c7 eb hE;clear hE;refine YL (v:=Sa #[X N_ n c1,X O_ n c2,Hl y n c3,Hl L_ ql c4]) ?_;have az:=db.o;have cf:=cq.o;have X_:=λd T_ L h3=>G (cc d L h3) (bl d T_ L);obtain⟨E_,q1,e1,e8,_⟩:=Xm f.1.9 ap;obtain⟨g2,q2,e2,fa,_⟩:=Xm f.1.o2 ap;injection e1 with di et eu;injection e2 with dj ev ey;subst di;subst dj;refine⟨P,S<|A E_ 0,c1,S<|A g2 0,c2,S<|A y 0,c3,S<|A L_ 0,c4,by rw[HQ.o],?_,J_,?_,?_,?_,?_⟩
 .have U_:=ac.trans<|f.1.6.mono (dU s);exact⟨G ec<|G a5.1 U_.1,G ef<|G a5.2.1 U_.2,G ed<|G a5.2.2 U_.3,oN U_.4,λd Y_=>G (X_ d O O O) (U_.5 d Y_)⟩
 .intro i o;have ao:i<n:=by have:=j.o;simp only[Pq,bK,gI]at o;omega
  obtain⟨lo,ch,a',c',q1,q2,q3,q4,q5⟩:=f.2 i ao;have du:Cl wE E_ i (af i):=G (bZ<|X_ E_ O O O) (Jj f.1.9<|by simp[ao]);have b4:(Pq x)[i]=AQ x 0 (i:I):=by simp[Pq]
  refine⟨E_,0,R,⟨O,O⟩,a',c',?_,?_⟩;·rw[aV,du,q1,b4]
  rw[b4];exact(q4.keepS λd T_ L=>X_ d O O O).mono O O
 .intro i o;have ao:i<n:=by have:=j.o;simp only[Pe,bK,gI]at o;omega
  have dk:(Pe x)[i]=Xh (Zp x).1 i:=by simp[Pe]
  refine⟨g2,0,R,⟨O,O⟩,?_⟩;rw[aV,dk];have g:=eQ.2<|qS.trans ((bt i).trans (M.top.2.1 i).symm);rw[<-g];exact G (bZ<|X_ g2 O O O) (Jj f.1.o2<|by simp[ao])
 .exact(bq.keepS λd T_ L=>X_ d L O O).mono O O
 intro i o;refine⟨L_,0,R,⟨O,O⟩,?_⟩;rw[aV];have d0:i<J (XT P n 0):=by rw[Y0]at o;exact o
 exact G (bZ<|cc L_ O O) (Jj cz<|by simp[Je,Xi,d0])
def lh(f:N->Value):N->N->List Value
 |_,0=>[]
 |i,n+1=>f i::lh f (i+1) n
theorem rD(i):∀(n:N)(a:List Value),J a=n->∃f:N->Value,a=lh f i n:=λn a h=>by
 have d:∀(n:N)(a:List Value)(i:N)(f:N->Value),J a=n->(∀j,f (i+j)=a.getD j Su)->a=lh f i n:=λn=>by
  induction n with
  |zero=>intro a i f h _;cases a with
   |nil=>rfl
   |cons=>cases h
  |succ n c=>intro a i f h b;cases a with
   |nil=>cases h
   |cons e a=>
    rw[lh,<-c a (i+1) f SI λj=>by have:=b<|j+1;rw[show i+1+j=i+(j+1) by omega];simpa using this];have:=b 0;rw[fW]at this;rw[this];rfl
 exact⟨λk=>a.getD (k-i) Su,d n a i _ h λj=>by rw[uB]⟩
noncomputable def M8:Code:=(f31.9.bind<|Zj 14).getD .skip
noncomputable def M7:Code:=(f31.9.bind<|Zj 19).getD .skip
noncomputable def Na:Code:=(f31.9.bind<|Zj 24).getD .skip
theorem M5{b d C r s q o u v wr}{K:Exit->Act->World->Prop}{c0 c2 c3 c4 c5}(U_:J y=120)(hQ:Q (∀c (O_:Act) t_ t w_,K (.panic c) (O_.put (S t_) t) w_->K (.panic c) O_ w_))(f4:E wr (A m (k+i))=S (H j))(h1:E wr (A n 1)=S (Hm b d C c))(g0:E wr (A b (d+j*6))=S (X p r s))(g1:E wr (A b (d+j*6+1))=S (X P q o))(g2:E wr (A b (d+j*6+2))=S (H T))(g3:E wr (A b (d+j*6+3))=S (H z))(g4:E wr (A b (d+j*6+4))=S (H u))(g5:E wr (A b (d+j*6+5))=S (H v))(a8:i<B)(a6:j<C)(R_:Q (∀(aa ab ac ad af aj al ao:Value)(x:World),Sw (Z wr.1) wr x->x.rowIs (Z wr.1) 52 6 (jo (X p r s) (X P q o) (H T) (H z) (H u) (H v))->K .normal ⟨(c0::Sj (S ⟨n,0,U⟩)::c2::c3::c4::c5::X (S ⟨m,k,U⟩) B g::a::Si S6 i::Sj (S ⟨Z wr.1,0,U⟩)::(y.take 32++aa::ab::ac::ad::af::aj::al::ao::y.drop 40)).toArray,[]⟩ x)):
 Code.wp prog M8 K ⟨(c0::Sj (S ⟨n,0,U⟩)::c2::c3::c4::c5::X (S ⟨m,k,U⟩) B g::a::Si S6 i::A_::y).toArray,[]⟩ wr:=by
 conv=>arg 2;whnf
 obtain⟨a4,rfl⟩:=rD 10 120 y U_;clear U_;simp only[lh,Nat.reduceAdd]at R_ |-;have a7:(i:I)<B:=O;have a5:(j:I)<C:=O;refine Y7 (λh=>E h (A m<|k+i)=S (H j)/\E h (A n 1)=S (Hm b d C c)/\E h (A b<|d+j*6)=S (X p r s)/\E h (A b<|d+j*6+1)=S (X P q o)/\E h (A b<|d+j*6+2)=S (H T)/\E h (A b<|d+j*6+3)=S (H z)/\E h (A b<|d+j*6+4)=S (H u)/\E h (A b<|d+j*6+5)=S (H v)) λig=>?_;refine X0 0 ?_;refine X0 1 ?_;refine X0 2 ?_;refine X0 3 ?_;refine X0 4 ?_;refine X0 5 ?_;refine X0 6 ?_;refine X0 7 ?_;refine Xs 8 λZ_ hK=>?_;go_simp;have V:(λw:World=>Sw (Z wr.1) wr w/\Q (w.rowIs (Z wr.1) 52 6<|jo Hq Hq (H 0) (H 0) (H 0) (H 0))) ((D wr<|Sc #[Hq,Hq,H 0,H 0,H 0,H 0] 52).drew):=⟨(Xb Rf _).drew,(Y<|World.rowIs.drew (eK wr #[Hq,Hq,H 0,H 0,H 0,H 0] 52 _ (λl L=>by match l,L with|0,_=>rfl|1,_=>rfl|2,_=>rfl|3,_=>rfl|4,_=>rfl|5,_=>rfl)))⟩
 generalize (D wr _).drew=H_ at*;let⟨K_,e⟩:=V;have Y_:=Y K_;have N_:Q (∀W,Sw (Z wr.1) wr W->E W (A m<|k+i)=S (H j)/\E W (A n 1)=S (Hm b d C c)/\E W (A b<|d+j*6)=S (X p r s)/\E W (A b<|d+j*6+1)=S (X P q o)/\E W (A b<|d+j*6+2)=S (H T)/\E W (A b<|d+j*6+3)=S (H z)/\E W (A b<|d+j*6+4)=S (H u)/\E W (A b<|d+j*6+5)=S (H v)):=Y (λW hW=>by
  have f:∀(I_ M_:N)(t:Value),E wr (A I_ M_)=S t->E W (A I_ M_)=S t:=λI_ M_ t F=>oB hW F<|aI wr _ F
  exact⟨f _ _ _ f4,f _ _ _ h1,f _ _ _ g0,f _ _ _ g1,f _ _ _ g2,f _ _ _ g3,f _ _ _ g4,f _ _ _ g5⟩)
 refine hK _ _ (N_ H_ K_) λig=>?_;clear hK K_
 refine Xs 9 λZ_ hK=>?_;have ar:=e.cell (i:=0) vY;have az:=e.cell (i:=1) vY;have a0:=e.cell (i:=2) vY;have a1:=e.cell (i:=3) vY;have a2:=e.cell (i:=4) vY;have a3:=e.cell (i:=5) vY;have lz:=e.frozen;have aq:∀(W:World)(l M:N)(V_:Value),l≠M->E (Se W (A (Z wr.1) l) V_) (A (Z wr.1) M)=E W (A (Z wr.1) M):=λW l M V_ F=>cJ λap=>F<|fI Addr.off ap;go_simp;clear ar az a0 a1 a2 a3 lz aq;have V:(λw:World=>Sw (Z wr.1) wr w/\Q (w.rowIs (Z wr.1) 52 6<|jo (X p r s) (X P q o) (H T) (H z) (H u) (H v))) (Se (Se (Se (Se (Se (Se H_ (A (Z wr.1) 0) (X p r s)) (A (Z wr.1) 1) (X P q o)) (A (Z wr.1) 2) (H T)) (A (Z wr.1) 3) (H z)) (A (Z wr.1) 4) (H u)) (A (Z wr.1) 5) (H v)):=⟨((((((Y_.setCell aA _).setCell aA _).setCell aA _).setCell aA _).setCell aA _).setCell aA _),(Y<|((((((e.set 0 _).set 1 _).set 2 _).set 3 _).set 4 _).set 5 _).congr (λl L=>by match l,L with|0,_=>rfl|1,_=>rfl|2,_=>rfl|3,_=>rfl|4,_=>rfl|5,_=>rfl))⟩;generalize (Se (Se (Se (Se (Se (Se H_ _ _) _ _) _ _) _ _) _ _) _ _)=x at*;let⟨S_,X_⟩:=V;refine hK _ _ (N_ x S_) λig=>?_;clear hK;refine Yq ?_;exact R_ _ _ _ _ _ _ _ _ _ S_ X_
theorem M4{e f r F d ln u x:N}{t:Exit->Act->World->Prop}{c0 c1 c2 c3 c5 C}(W:J y=118)(hQ:Q (∀c (z:Act) t_ h w,t (.panic c) (z.put (S t_) h) w->t (.panic c) z w))(K:E v ⟨e,0,U⟩=S (X (S ⟨f,r,U⟩) i F))(L:E v ⟨f,r+g*2,U⟩=S (Si S6 (B:I)))(M:E v ⟨d,0,U⟩=S (X p ln u))(yg:E v ⟨k,B,U⟩=S (Si S6 T))(yf:v.frozen? ⟨k,B,U⟩=Sn)(ac:e≠k)(ad:f≠k)(ab:d≠k)(hj:g<i)(hd:B<n)(J_:Q (Sk prog 74 #[X (S ⟨k,0,U⟩) n m,X p ln u] v.drew λo l=>o=Rt (Si S6 (x:I))/\l=v.drew))(V:Q (∀(L_ M_ N_ O_ P R_ S_ U_ V_ W_ X_ Y_ Z_ aa:Value),t .normal ⟨(c0::c1::c2::c3::X (S ⟨k,0,U⟩) n m::c5::a::A_::C::Sj (S ⟨e,0,U⟩)::X (S ⟨d,0,U⟩) (j+1) (j+1)::Si S6 (g:I)::(y.take 53++L_::M_::N_::O_::P::R_::S_::U_::V_::W_::X_::Y_::Z_::aa::y.drop 67)).toArray,[]⟩ (Se v.drew ⟨k,B,U⟩ (Si S6 (x:I))))):
 Code.wp prog M7 t ⟨(c0::c1::c2::c3::X (S ⟨k,0,U⟩) n m::c5::a::A_::C::Sj (S ⟨e,0,U⟩)::X (S ⟨d,0,U⟩) (j+1) (j+1)::Si S6 (g:I)::y).toArray,[]⟩ v:=by
 conv=>arg 2;whnf
 obtain⟨aj,rfl⟩:=rD 12 118 y W;simp only[lh,Nat.reduceAdd]at V |-;have ao:(g:I)<i:=O;have al:(B:I)<n:=O;refine Y7 (λl=>E l (A e 0)=S (Hm f r i F)/\E l (A f<|r+g*2)=S (H B)/\E l (A d 0)=S (X p ln u)) λig=>?_;refine X0 0 ?_;refine X0 1 ?_;refine X0 2 ?_;refine X0 3 ?_;refine X0 4 ?_;refine X0 5 ?_;refine X0 6 ?_;refine X0 7 ?_;refine X0 8 ?_;refine X0 9 ?_;refine X0 10 ?_;refine X0 11 ?_;refine Xs 12 λK_ hK=>?_;go_simp;refine YU J_ λw6 af=>?_;subst af;refine hK _ _ ⟨K,L,M⟩ λig=>?_;refine X0 13 ?_;refine Xs 14 λK_ hK=>?_;go_simp;have q:∀(b s:N)(h:Value),b≠k->E v (A b s)=S h->E (Se v.drew (A k B) (H x)) (A b s)=S h:=λb s h h1 h2=>G (bH v.drew (A k B) (A b s) _ (by show k≠b;exact λo=>h1 o.symm)) h2;refine hK _ _ ⟨q _ _ _ ac K,q _ _ _ ad L,q _ _ _ ab M⟩ λig=>?_
 refine Yq ?_;exact V _ _ _ _ _ _ _ _ _ _ _ _ _ _
theorem M6{e f r F d ln u x:N}{t:Exit->Act->World->Prop}{c0 c1 c2 c3 c5 K C}(F_:J y=117)(hQ:Q (∀c (z:Act) t_ h w,t (.panic c) (z.put (S t_) h) w->t (.panic c) z w))(L:E v ⟨e,1,U⟩=S (X (S ⟨f,r,U⟩) i F))(M:E v ⟨f,r+g*5+1,U⟩=S (Si S6 (B:I)))(V:E v ⟨d,g+1,U⟩=S (X p ln u))(yg:E v ⟨k,B,U⟩=S (Si S6 T))(yf:v.frozen? ⟨k,B,U⟩=Sn)(aj:e≠k)(al:f≠k)(af:d≠k)(hj:g<i)(hd:B<n)(a2:j<=4000)(a1:g<j)(K_:Q (Sk prog 74 #[X (S ⟨k,0,U⟩) n m,X p ln u] v.drew λo l=>o=Rt (Si S6 (x:I))/\l=v.drew))(W:Q (∀(X_ Y_ Z_ aa ab ac ad M_ N_ O_ P R_ S_ U_ V_ W_:Value),t .normal ⟨(c0::c1::c2::c3::X (S ⟨k,0,U⟩) n m::c5::a::A_::K::Sj (S ⟨e,0,U⟩)::X (S ⟨d,0,U⟩) (j+1) (j+1)::C::Si S6 (g:I)::(y.take 80++X_::Y_::Z_::aa::ab::ac::ad::M_::N_::O_::P::R_::S_::U_::V_::W_::y.drop 96)).toArray,[]⟩ (Se v.drew ⟨k,B,U⟩ (Si S6 (x:I))))):
 Code.wp prog Na t ⟨(c0::c1::c2::c3::X (S ⟨k,0,U⟩) n m::c5::a::A_::K::Sj (S ⟨e,0,U⟩)::X (S ⟨d,0,U⟩) (j+1) (j+1)::C::Si S6 (g:I)::y).toArray,[]⟩ v:=by
 conv=>arg 2;whnf
 obtain⟨ap,rfl⟩:=rD 13 117 y F_;simp only[lh,Nat.reduceAdd]at W |-;have az:(g:I)<i:=O;have aq:(B:I)<n:=O;have a3:S6.wrap ((g:I)+1)=(g:I)+1:=by rw[dF];omega
 have ar:0<=(g:I)+1:=O;have a0:(g:I)+1<(j:I)+1:=O;refine Y7 (λl=>E l (A e 1)=S (Hm f r i F)/\E l (A f<|r+g*5+1)=S (H B)/\E l (A d<|g+1)=S (X p ln u)) λig=>?_;refine X0 0 ?_;refine X0 1 ?_;refine X0 2 ?_;refine X0 3 ?_;refine X0 4 ?_;refine X0 5 ?_;refine X0 6 ?_;refine X0 7 ?_;refine X0 8 ?_;refine X0 9 ?_;refine X0 10 ?_;refine X0 11 ?_;refine X0 12 ?_;refine X0 13 ?_;refine Xs 14 λL_ hK=>?_;go_simp;refine YU K_ λw6 ao=>?_;subst ao;refine hK _ _ ⟨L,M,V⟩ λig=>?_;refine X0 15 ?_;refine Xs 16 λL_ hK=>?_;go_simp;have q:∀(b s:N)(h:Value),b≠k->E v (A b s)=S h->E (Se v.drew (A k B) (H x)) (A b s)=S h:=λb s h h1 h2=>G (bH v.drew (A k B) (A b s) _ (by show k≠b;exact λo=>h1 o.symm)) h2;refine hK _ _ ⟨q _ _ _ aj L,q _ _ _ al M,q _ _ _ af V⟩ λig=>?_
 refine Yq ?_;exact W _ _ _ _ _ _ _ _ _ _ _ _ _ _ _ _
section
structure OC(w4 wr:World)(g V cap:N)(C:N->I):Prop where
 os:wr.4=w4.4
 tape:wr.2=w4.2
 output:wr.5=w4.5
 size:Z w4.1<=Z wr.1
 gl:g<Z w4.1
 fr:∀q,q<Z w4.1->q≠g->wr.1[q]?=w4.1[q]?
 ia:HK wr g V cap C
section
variable {w4 wr wr': World} {g V cap: N} {C C': N -> I}
theorem OC.far(h:OC w4 wr g V cap C)(k:Sw (Z wr.1) wr wr'):OC w4 wr' g V cap C :=
 ⟨G k.1 h.1,G k.2 h.2,G k.3 h.3,aJ h.4 k.4,h.5,λq q1 q2=>G (k.5 q<|aX q1 h.4) (h.6 q q1 q2),h.7.of_block<|k.5 g (aX h.5 h.4)⟩
theorem OC.put(h:OC w4 wr g V cap C){v}(a:v<V)(x):OC w4 (Se wr ⟨g,v,U⟩ (Si S6 x)) g V cap (λu=>if u=v then x else C u) :=
 ⟨h.1,h.2,h.3,by rw[Xd];exact h.4,h.5,λq q1 q2=>G (cY q2) (h.6 q q1 q2),h.7.set v x a⟩
theorem OC.cell(h:OC w4 wr g V cap C){b o v}(c:b≠g)(a:E w4 (A b o)=S v):E wr (A b o)=S v:=G (Xc<|h.6 b (aI w4 _ a) c) a
end
theorem vW{xs:List Xe}{V b x}{i d:N}(c:i<J x.1)(a:x.1[i].1=(d:I)):Ni xs V b x (i+1)=Ni xs V b x i++[(d,Uq xs x V b 0)]:=by unfold Ni;rw[kJ,aC c,bG];simp[a]
theorem q9{xs V b x}{i d:N}(c:i<J x.2)(e:dB x.2[i].1=So)(a:x.2[i].2=(d:I)):VC xs V b x (i+1)=VC xs V b x i++[(d,Uq xs x V b<|i+1)]:=by rw[VC,aC c];simp[BW,e,a]
theorem xk{xs V b x i}(a:i<J x.2)(c:dB x.2[i].1=Sn):VC xs V b x (i+1)=VC xs V b x i:=by rw[VC,aC a];simp[BW,c]
def OX(a b c:Value):N->Value
 |0=>a
 |1=>b
 |_=>c
theorem Ah{V}:∀(a:List (N×List N))(C:N->I),(∀s∈a,J s.2<=V)->(∀u,-1<=C u/\C u<=(V:I))->∀u,-1<=Kq C a u/\Kq C a u<=(V:I)
 |[],_,_,h=>h
 |s::a,C,hs,h=>by
  refine Ah a (Nn C s) (λt b=>hs t<|cN _ b) λu=>?_;unfold Nn;by_cases e:u=s.1
  .rw[aU e];have c:=MW C s.2;have d:=hs s cI;omega
  rw[aM e];exact h u
theorem Aj{a:List Xe}{x V b i}:J (Uq a x V b i)<=V:=by unfold Uq;exact aJ (fJ _ _) sP
theorem Ai{a V b x}:∀k,∀s∈VC a V b x k,J s.2<=V
 |0,s,h=>by cases h
 |k+1,s,h=>by
  rw[VC]at h;obtain h|h:=bU.1 h;·exact Ai k s h
  cases hk:x.2[k]? with
  |none=>rw[hk]at h;cases h
  |some y=>
   rw[hk]at h;obtain⟨v,_,rfl⟩:=aY.1 h;exact Aj
theorem MS{b:List Xe}{V}{c:List N}:∀u,-1<=Kq (λ_=>-1) (Ko b V c) u/\Kq (λ_=>-1) (Ko b V c) u<=(V:I):=by
 refine Ah _ _ (λs a=>?_) λu=>O;let⟨d,_,a⟩:=bV.1 a;unfold OV at a;cases hb:b[d]? with
 |none=>rw[hb]at a;cases a
 |some x=>
  rw[hb]at a;obtain a|a:=bU.1 a
  .obtain⟨p,_,rfl⟩:=aY.1 a;exact Aj
  exact Ai _ s a
structure Py(w1 wr:World)(u:Value)(k:N):Prop where
 low:Sw (Z w1.1) w1 wr
 ne:u≠X U 0 0
 own:Sx wr (Z w1.1) 2 1 u k ((List.replicate k (-1)).map (Si S6))
theorem Lj{V:N}{az:Option Addr}{n c}{a:List Xe}{em cp}{w:World}(ha:Q (Xp w em cp az a))(hx:Q (n=J a))(hs:Q (J a+Xx a<=1048576))(hB:cp<=Z w.1)(hv:Q (Ft (V:I) a=0))(fr:Q (XJ ⟨(V:I),a⟩=So))(K_:Q (Jy V a)):
 Sk prog 31 #[Sa #[Si S6 (V:I),X az n c]] w λs w'=>∃af g cap,YX (X8 a) n af/\s=Rt (Sa #[Si S6 0,X (S ⟨g,0,U⟩) V cap,Si S6 (NE (Kq (λ_=>-1) (Ko a V<|XT af n 0)) V)])/\Sw (Z w.1) w w'/\Z w.1<=g/\HK w' g V cap (Kq (λ_=>-1) (Ko a V<|XT af n 0)):=by
 have hn:n<=1000:=oP hx.o K_.1.2;have hV:=K_.2;have bv:=Y λW (B:Sw (Z w.1) w W)=>KT V c (Y<|ha.keep (B.mono hB)) hx hs (oN B.4);rw[hv.o]at bv;have cq:=Y λW (B:Sw (Z w.1) w W)=>I9 c (Y<|ha.keep (B.mono hB)) hx hs (oN B.4) fr;have c7:=Y λW (B:Sw (Z w.1) w W)=>qm c (Y<|ha.keep (B.mono hB)) hx (oN B.4) K_
 go_in
 go_wp2_with fail
 have ca:(λL_:World=>Sw (Z w.1) w L_/\Z w.1+2<=Z L_.1/\E L_ ⟨Z w.1,0,U⟩=S (Si S6 V)/\E L_ ⟨Z w.1,1,U⟩=S (X az n c)/\Q (L_.1[Z w.1+1]?=S (Sc #[Si S6 0,X U 0 0,Si S6 0] 79))) (D (D w<|Sc #[Si S6 V,X az n c] 25) (Sc #[Si S6 0,X U 0 0,Si S6 0] 79)):=⟨Xb (Xb Rf _) _,sP,SC,SC,(Y (by have:=World.alloc_heap_new (D w<|Sc #[Si S6 V,X az n c] 25) (Sc #[Si S6 0,X U 0 0,Si S6 0] 79);rwa[aO]at this))⟩
 generalize D (D w _) _=w0 at*;obtain⟨cc,ka,c0,c1,c9⟩:=ca;refine YU (bv _ cc) λz aj=>?_;have kb:=aj.4;have k0:=G (XU aj O) c0;have k1:=G (XU aj O) c1;have cr:=Y<|Xg cc aj;have ee:=Y<|G (aj.5 _ O) c9;clear cc aj c0 c1 bv c9;go_wp2_with fail
 have cx:Q (Py z (D z<|Sc #[] 2) (X (S ⟨Z z.1,0,U⟩) 0 0) 0):=Y ⟨Xb Rf _,sP,eI (base:=Z z.1) (e:=2) (size:=1) z #[] 0 sP sP R⟩;generalize D z _=w2 at*
 go_loopw [4,5] (λu i wr=>∃q:N,q<=V/\i=Si S6 q/\Q (Py z wr u q)) λ_ i _=>V-(JB i).toNat
 .exact⟨0,aN,R,cx⟩
 clear cx;obtain⟨q,hq,rfl,l⟩:=hrel;have cm:=G (XU l.1 O) k0;have cn:=G (XU l.1 O) k1;by_cases js:q<V
 .have j3:(q:I)<V:=O;have e9:=l.1.4;go_wp2_with (at_builtin;refine YC RH l.3 ?_)
  intro v1 u1 bd ao _ eo;have a7:Q (Py z u1 v1<|q+1):=Y (by
   refine⟨⟨G ao.1 l.1.1,G ao.2 l.1.2,G ao.3 l.1.3,aJ e9<|aJ sP ao.4,λb B=>?_⟩,λs=>?_,?_⟩;·exact G (ao.5 b SB λs=>by have:=(l.3.lt b s.symm).1;omega) (G (gF _ _ _ O) (l.1.5 b B))
   .have:=bd.1;obtain⟨_,e2⟩|⟨g,cap,cur,e2,_⟩:=bd.2;·omega
    rw[s]at e2;cases e2
   simpa [List.replicate_succ']using bd)
  obtain⟨av,cv,fn⟩:∃av cv,v1=X av (q+1) cv:=by obtain⟨av,cv,K,_⟩:=Xk a7.3;rw[kN]at K;exact⟨av,cv,K⟩
  subst fn;clear bd ao eo cm cn;go_wp2;exact⟨⟨q+1,O,gM,a7⟩,SA⟩
 have fj:q=V:=O
 subst fj;have b0:=Y<|cr.trans (l.1.mono cr.4);have kn:=l.1.4;obtain⟨g,cap,rfl,i2,dd⟩:∃g cap,u4=X (S ⟨g,0,U⟩) q cap/\Z z.1<=g/\HK wr g q cap (λ_=>-1):=by have h1:=l.3;have h2:Sx wr (Z z.1) 2 1 u4 (J (List.replicate q (-1))) ((List.replicate q (-1:I)).map (Si S6)):=kN▸h1;obtain⟨g,cap,e1,e2,e3⟩:=HK.of_own h2 l.2;rw[kN]at e1 e3;exact⟨g,cap,e1,e2,e3.congr λi hi=>by rw[bF,mI,aU hi];rfl⟩
 have a6:=Y dd;have ef:=Y<|G (l.1.5 _ O) ee;clear dd l;go_wp2_with fail
 refine(cq _ b0).mono ?_;rintro s w3⟨af,a1,c1,a2,c2,a3,c3,a4,c4,rfl,S_,hP,dc⟩;have HP:=Y hP;have b1:=Y<|Xg b0 S_;have bq:=Y dc.o;have kc:=S_.4;have m0:=G (XU S_ O) cm;have m1:=G (XU S_ O) cn;have cw:=Y<|a6.of_block (S_.5 g a6.lt);have i3:=a6.lt;obtain⟨f,bc⟩:∃f,f=XT af n 0:=⟨_,R⟩;rw[<-bc]at bq;rw[<-bc];obtain⟨r,hm⟩:∃r,r=J f:=⟨_,R⟩;rw[<-hm];have br:=Y bc;have bn:=Y hm;have es:∀W,(Instr.field 161 (Sa #[X a1 n c1,X a2 n c2,X a3 n c3,X a4 r c4]) 3).run prog W=.ok (X a4 r c4) W:=λW=>vZ;have eg:=Y<|G (S_.5 _ O) ef;clear S_ hP dc cm cn a6 cq bc hm;go_wp2_with fail
 refine(c7 _ b1).mono ?_;rintro s w4⟨gO,cO,ga,rfl,L,i1,hG⟩;have O_:=Y<|Xg b1 L;have kd:=L.4;have n0:=G (XU L O) m0;have n1:=G (XU L O) m1;have ec:=Y<|bq.keep L;have dk:=Y<|ha.keep (O_.mono hB);have cs:Q (OC w4 w4 g q cap<|Kq (λ_=>-1) (Ko a q<|f.take 0)):=Y ⟨R,R,R,aA,O,λ_ _ _=>R,cw.of_block<|L.5 g O⟩;have eb:=Y n0;have a7:=Y n1;have dw:=Y hG;have ej:Q (∀ap∈f,ap<n):=Y (br.o▸λap fx=>(hx.o▸K_.1.re ap (Ji HP n 0 ap (Re.root) fx).2));have jv:r<=1000:=by have h1:=o9 HP (λap fs=>hx.o▸K_.1.re ap fs) n Re.root;rw[bn.o,br.o];omega
 have ei:=Y<|G (L.5 _ O) eg;clear L hG m0 m1 bq cw es n0 n1 c7 b1 b0;go_wp2
 go_loopw [8] (λi wx=>∃k:N,k<=r/\i=Si S6 k/\Q (OC w4 wx g q cap<|Kq (λ_=>-1) (Ko a q<|f.take k))) λi _=>r-(JB i).toNat
 .exact⟨0,aN,R,cs⟩
 clear cs;obtain⟨k,hk,rfl,h⟩:=hrel;by_cases dj:k<r
 .have ch:k<J f:=bn.o▸dj;have ez:k<J (Xi f):=by simpa [Xi]using ch
  obtain⟨b4,o4,rfl,L,e4⟩:=ec k ez;have cd:=ej _<|aH ch;have el:Q (f.take (k+1)=f.take k++[f[k]]):=Y (by rw[kJ,aC ch];rfl);rw[show(Xi f)[k]=((f[k]:N):I) by simp[Xi]]at e4;generalize f[k]=b at*;have J_:b<J a:=hx.o▸cd;obtain⟨bb,oo,rfl,ir,pa,pc,ia,ic,p0,p1,⟨t0,t1,t2,t3⟩,ck,cg⟩:=dk b J_;obtain⟨s0,_,s2⟩:=dw b cd;obtain⟨F,hX⟩:∃F,F=a[b]:=⟨_,R⟩;rw[<-hX]at p0 p1 t0 t1 t2 t3 ck cg;have P_:=Y hX;clear hX;rw[show J (Tu a b)=J F.2 by rw[Vt J_,P_.o]]at s0 s2;have f4:=h.cell O e4;have f0:=h.cell O p0;have f1:=h.cell O p1;have g0:=h.cell O t0;have g1:=h.cell O t1;have g2:=h.cell O t2;have g3:=h.cell O t3;have h0:=h.cell O eb;have h1:=h.cell O a7;have hS:=h.cell O s0;have ed:=Y ck;have ea:=Y cg;have da:=Y s2;have jl:(k:I)<r:=O;have iv:(b:I)<n:=O;clear e4 p0 p1 t0 t1 t2 t3 ck cg s0 s2;go_wp2_with fail
  refine M5 R (Y λ_ _ _ _ _ K=>K) f4 h1 f0 f1 g0 g1 g2 g3 dj cd (Y ?_);intro gq gr gs gt gv gz g4 g5 W6 al db;simp only[uw,lK,ya,zC,cW,dR];have a5:=Y db;clear db;have bf:=Y<|h.far al;have fz:=h.4;have i4:=oB al f4<|aI wr _ f4;have iS:=oB al hS<|aI wr _ hS;obtain⟨m,ce⟩:∃m,m=Z wr.1:=⟨_,R⟩;rw[<-ce]at a5 fz;rw[<-ce];have a9:m≠g:=O;clear al h f4 hS f0 f1 g0 g1 g2 g3 h0 h1 ce;obtain⟨M,b7⟩:∃M,M=Kq (λ_=>-1) (Ko a q<|f.take k):=⟨_,R⟩;rw[<-b7]at bf;have dn:=Y b7;clear b7;generalize wr=wv at*;go_wp2_with fail
  have c6:Q (OC w4 W6 g q cap<|Kq M (Ni a q b F 0)):=Y (by unfold Ni;simpa [Kq]using bf.o);obtain⟨P,cj⟩:∃r,r=J F.1:=⟨_,R⟩;obtain⟨t,ci⟩:∃r,r=J F.2:=⟨_,R⟩;rw[<-cj,<-ci]at a5;have cz:=Y cj;have bo:=Y ci;have e0:=K_.10 F (P_.o▸aH J_);have j1:P<=4000:=O;have j0:t<=4000:=O;clear cj ci e0 bf i4 iS
  go_loopw [11] (λi wx=>∃i':N,i'<=P/\i=Si S6 i'/\Q (OC w4 wx g q cap<|Kq M (Ni a q b F i'))/\Q (wx.rowIs m 52 6<|jo (X pa P pc) (X ia t ic) (Si S6 F.3.1) (Si S6 F.3.a) (Si S6 F.3.3) (Si S6 F.3.4))) λi _=>P-(JB i).toNat
  .exact⟨0,aN,R,c6,a5⟩
  clear c6 a5;obtain⟨i,hi,rfl,x,aa⟩:=hrel;have x0:Cl wr m 0 (X pa P pc):=aa.cell (i:=0) vY;have x1:Cl wr m 1 (X ia t ic):=aa.cell (i:=1) vY;by_cases df:i<P
  .have cf:i<J F.1:=cz.o▸df;obtain⟨pb,po,rfl,j2,ko,kq,d0,_,_⟩:=ed i cf;have cb:F∈a:=P_.o▸aH J_;have T_:=K_.8 F cb F.1[i] (aH cf);obtain⟨y,T⟩:=bX T_.1;have U_:y<q:=by have:=T_.2;rw[T]at this;omega
   have ac:=Y<|vW (xs:=a) (V:=q) (b:=b) cf T;rw[T]at d0;have y0:=x.cell O d0;obtain⟨b5,o5,e5,ep,a',c',s0,s1⟩:=da 0 sP;simp only[cM,dW]at s0 s1;injection e5 with e5;injection e5 with Q_ e7;subst Q_ e7;have a0:UU a q b 0=Xi (Uq a F q b 0):=P_.o▸TQ J_ q 0;rw[a0]at s0 s1;have bm:Q (∀u∈Uq a F q b 0,u<q):=Y (λu e=>by unfold Uq at e;exact bE.1 (fG.1 e).1);have en:J (Uq a F q b 0)<=q:=by unfold Uq;exact aJ (fJ _ _) sP
   generalize Uq a F q b 0=o at*;have y1:=x.cell O s0;obtain⟨ln,Z_⟩:∃ln,ln=J o:=⟨_,R⟩;rw[show J (Xi o)=J o by simp[Xi],<-Z_]at y1;have bl:=Y Z_;have e8:ln<=q:=O;clear Z_;obtain⟨C,R_⟩:∃C,C=Kq M (Ni a q b F i):=⟨_,R⟩;have bi:=Y R_;rw[<-R_]at x;have ar:=Y (λW (hW:Sw (Z wr.1) wr W)=>yH (S ⟨g,0,U⟩) cap C a' c' W (Y λu e=>⟨g,0,R,by rw[aV];exact oB hW (x.7.cell e) x.7.lt⟩) (Y (λj Y_=>by
    obtain⟨b6,o6,Q_,al,b3⟩:=s1 j (by simpa [Xi]using Y_);have h6:E w4 ⟨b6,o6+j,U⟩=S (Si S6 ((o[j]:N):I)):=by rw[b3];simp[Xi]
    have h7:=x.cell O h6;exact⟨b6,o6,Q_,oB hW h7<|aI wr _ h7⟩)) bl O bm)
   have yg:=x.7.cell U_;have yf:=x.7.frozen y;have jf:(i:I)<P:=O;have er:(y:I)<q:=O;have N_:Q (∀F_,Sw (Z wr.1) wr F_->OC w4 (Se F_ ⟨g,y,U⟩ (Si S6 (Nx C o:I))) g q cap (Kq M<|Ni a q b F (i+1))/\(Se F_ ⟨g,y,U⟩ (Si S6 (Nx C o:I))).rowIs m 52 6 (jo (X (S ⟨pb,po,U⟩) P pc) (X ia t ic) (Si S6 F.3.1) (Si S6 F.3.a) (Si S6 F.3.3) (Si S6 F.3.4))):=Y (λF_ h5=>by refine⟨?_,(aa.of_block<|h5.5 m aa.lt).setOther (by show m≠g;exact a9) _⟩;rw[ac.o,rl,<-bi.o];exact(x.far h5).put U_ _)
   clear d0 s0 s1 R_ T_ T a0;generalize Nx C o=sm at*;go_wp2_with fail
   refine M4 R (Y λ_ _ _ _ _ K=>K) x0 y0 y1 yg yf a9 O O df U_ (Y<|ar.o wr.drew (Rf).drew) (Y ?_);intro g6 g7 g8 g9 hc he hf hg hh hl hp ht hw hy;simp only[uw,lK,ya,zC,cW,dR];clear x0 x1 y0 y1 yg yf ar;go_wp2;exact⟨⟨i+1,O,gM,Y (N_.o wr.drew (Rf).drew).1,Y (N_.o wr.drew (Rf).drew).2⟩,SA⟩
  have eu:i=P:=O;subst eu;have bh:Q (OC w4 wr g q cap<|Kq M (Ni a q b F (J F.1))):=Y (by rw[<-cz.o];exact x);go_wp2_with fail
  clear x x0 x1;obtain⟨M_,b8⟩:∃M_,M_=Kq M (Ni a q b F (J F.1)):=⟨_,R⟩;rw[<-b8]at bh;have ds:=Y b8;clear b8;have c8:Q (OC w4 wr g q cap<|Kq M_ (VC a q b F 0)):=Y (by simpa [VC,Kq]using bh.o);generalize wr=wz at*
  go_loopw [12] (λj wx=>∃j':N,j'<=t/\j=Si S6 j'/\Q (OC w4 wx g q cap<|Kq M_ (VC a q b F j'))/\Q (wx.rowIs m 52 6<|jo (X pa i pc) (X ia t ic) (Si S6 F.3.1) (Si S6 F.3.a) (Si S6 F.3.3) (Si S6 F.3.4))) λj _=>t-(JB j).toNat
  .exact⟨0,aN,R,c8,aa⟩
  clear c8 aa bh;obtain⟨j,Y_,rfl,p,ab⟩:=hrel;have x0:Cl wr m 0 (X pa i pc):=ab.cell (i:=0) vY;have x1:Cl wr m 1 (X ia t ic):=ab.cell (i:=1) vY;by_cases di:j<t
  .have ba:j<J F.2:=by rw[<-bo.o];exact di
   obtain⟨ib,io,rfl,i6,o0,o1,_,_,_⟩:=ea j ba;have cb:F∈a:=by rw[P_.o];exact aH J_
   have y2:=p.cell O o0;have be:=p.cell O o1;have ad:=Y<|nZ F.2[j].1 wr;have jj:(j:I)<t:=O;cases e:dB F.2[j].1 with
   |false=>
    rw[e]at ad;have ac:=Y<|xk (xs:=a) (V:=q) (b:=b) ba e;clear o0 o1 be;go_wp2_with fail
    refine YU ad λw5 cl=>?_;subst cl;clear ad;go_wp2_with fail
    refine⟨?_,SA⟩
    first
     |exact⟨j+1,O,gM,Y (by rw[ac.o];exact p),ab⟩
     |((repeat apply gP);refine⟨?_,R⟩;exact⟨j+1,O,gM,Y (by rw[ac.o];exact p),ab⟩)
   |true=>
    rw[e]at ad;have T_:=K_.6 F cb F.2[j] (aH ba) F.2[j].2 (by unfold BW;rw[e];simp);obtain⟨y,T⟩:=bX T_.1;have U_:y<q:=by have:=T_.2;rw[T]at this;omega
    have ac:=Y<|q9 (xs:=a) (V:=q) (b:=b) ba e T;rw[T]at be;obtain⟨b5,o5,e5,ep,a',c',s0,s1⟩:=da (j+1) SB;simp only[cM,dW]at s0 s1;injection e5 with e5;injection e5 with Q_ e7;subst Q_ e7;rw[aV]at s0;have a0:UU a q b (j+1)=Xi (Uq a F q b<|j+1):=by rw[P_.o];exact TQ J_ q<|j+1
    rw[a0]at s0 s1;have bm:Q (∀u∈Uq a F q b (j+1),u<q):=Y (λu e=>by unfold Uq at e;exact bE.1 (fG.1 e).1);have en:J (Uq a F q b<|j+1)<=q:=by unfold Uq;exact aJ (fJ _ _) sP
    generalize Uq a F q b (j+1)=o at*;have y1:=p.cell O s0;obtain⟨ln,Z_⟩:∃ln,ln=J o:=⟨_,R⟩;rw[show J (Xi o)=J o by simp[Xi],<-Z_]at y1;have bl:=Y Z_;have e8:ln<=q:=O;clear Z_;obtain⟨C,R_⟩:∃C,C=Kq M_ (VC a q b F j):=⟨_,R⟩;have bi:=Y R_;rw[<-R_]at p;have ar:=Y (λW (hW:Sw (Z wr.1) wr W)=>yH (S ⟨g,0,U⟩) cap C a' c' W (Y λu e=>⟨g,0,R,by rw[aV];exact oB hW (p.7.cell e) p.7.lt⟩) (Y (λco hr=>by
     obtain⟨b6,o6,Q_,al,b3⟩:=s1 co (by simpa [Xi]using hr);have h6:E w4 ⟨b6,o6+co,U⟩=S (Si S6 ((o[co]:N):I)):=by rw[b3];simp[Xi]
     have h7:=p.cell O h6;exact⟨b6,o6,Q_,oB hW h7<|aI wr _ h7⟩)) bl O bm)
    have yg:=p.7.cell U_;have yf:=p.7.frozen y;have er:(y:I)<q:=O;have N_:Q (∀F_,Sw (Z wr.1) wr F_->OC w4 (Se F_ ⟨g,y,U⟩ (Si S6 (Nx C o:I))) g q cap (Kq M_<|VC a q b F (j+1))/\(Se F_ ⟨g,y,U⟩ (Si S6 (Nx C o:I))).rowIs m 52 6 (jo (X pa i pc) (X (S ⟨ib,io,U⟩) t ic) (Si S6 F.3.1) (Si S6 F.3.a) (Si S6 F.3.3) (Si S6 F.3.4))):=Y (λF_ h5=>by refine⟨?_,(ab.of_block<|h5.5 m ab.lt).setOther (by show m≠g;exact a9) _⟩;rw[ac.o,rl,<-bi.o];exact(p.far h5).put U_ _)
    clear o0 o1 s0 s1 R_ T_ T a0 e;generalize Nx C o=sm at*;go_wp2_with fail
    refine YU ad λw5 cl=>?_;subst cl;clear ad y2;go_wp2_with fail
    refine M6 R (Y λ_ _ _ _ _ K=>K) x1 be y1 yg yf a9 O O di U_ (oN bo.o) O (Y<|ar.o w5.drew (Rf).drew) (Y ?_);intro hz h3 h4 h8 h9 ih il gb gd ge gf gg gh gi gl gp;simp only[uw,lK,ya,zC,cW,dR];clear x0 x1 be y1 yg yf ar;go_wp2_with fail
    refine⟨?_,SA⟩
    first
     |exact⟨j+1,O,gM,Y (N_.o w5.drew (Rf).drew).1,Y (N_.o w5.drew (Rf).drew).2⟩
     |((repeat apply gP);refine⟨?_,R⟩;exact⟨j+1,O,gM,Y (N_.o w5.drew (Below.refl _ _).drew).1,Y (N_.o w5.drew (Below.refl _ _).drew).2⟩)
  have ev:j=t:=O
  subst ev;have ct:Q (Kq (λ_=>-1) (Ko a q<|f.take (k+1))=Kq M_ (VC a q b F j)):=Y (by rw[el.o,qT,zW,<-dn.o];unfold OV;rw[aC J_,<-P_.o];show Kq M (Ni a q b F (J F.1)++VC a q b F (J F.2))=_;rw[zW,<-ds.o,<-bo.o])
  clear x0;go_wp2_with fail
  refine⟨?_,SA⟩
  first
   |exact⟨k+1,O,gM,Y<|by rw[ct.o];exact p⟩
   |((repeat apply gP);refine⟨?_,R⟩;exact⟨k+1,O,gM,Y<|by rw[ct.o];exact p⟩)
 have ey:k=r:=O
 subst ey;have E_:Q (OC w4 wr g q cap<|Kq (λ_=>-1) (Ko a q f)):=Y (by have:=h.o;rw[bn.o,gC]at this;exact this)
 clear h;obtain⟨d,a8⟩:∃d,d=Kq (λ_=>-1) (Ko a q f):=⟨_,R⟩;rw[<-a8]at E_;have du:=Y a8;have ek:Q (∀u,-1<=d u/\d u<=(q:I)):=Y (by rw[a8];exact MS);clear a8;have aq:Q (wr.rowIs (Z w.1+1) 79 3 (OX (Si S6 0) (X U 0 0) (Si S6 0))):=Y ⟨_,G (E_.6 _ O O) ei,R,λi hi=>by match i,hi with|0,_=>rfl|1,_=>rfl|2,_=>rfl⟩;go_wp2
 go_loop [13,14] (λc i=>∃v:N,v<=q/\i=Si S6 v/\c=Si S6 (NE d v)) λ_ i=>q-(JB i).toNat
 .exact⟨0,aN,R,R⟩
 obtain⟨v,kk,rfl,rfl⟩:=hrel;have j4:=ek v;by_cases fa:v<q
 .have yv:=E_.7.cell fa;have kf:(v:I)<q:=O;have kl:S6.wrap (d v+1)=d v+1:=by rw[dF];omega
  by_cases i5:NE d v<d v+1
  .have bp:Q (NE d (v+1)=d v+1):=Y (by rw[NE];omega);generalize NE d v=kv at*;generalize d v=cv at*;go_wp2;exact⟨⟨v+1,O,gM,by rw[bp.o]⟩,SA⟩
  have bp:Q (NE d (v+1)=NE d v):=Y (by rw[NE];omega);generalize NE d v=kv at*;generalize d v=cv at*;go_wp2;exact⟨⟨v+1,O,gM,by rw[bp.o]⟩,SA⟩
 have fq:v=q:=O;subst fq;have f5:=aq.cell (i:=0) vY;have f6:=aq.cell (i:=1) vY;have f7:=aq.cell (i:=2) vY;have lz:=aq.frozen;have fl:∀(W:World)(i j:N)(u:Value),i≠j->E (Se W ⟨Z w.1+1,i,U⟩ u) ⟨Z w.1+1,j,U⟩=E W ⟨Z w.1+1,j,U⟩:=λW i j u K=>cJ λs=>K<|fI Addr.off s;go_wp2_with fail
 clear f5 f6 f7 lz fl;have bt:Q ((Se (Se (Se wr ⟨Z w.1+1,0,U⟩ (Si S6 0)) ⟨Z w.1+1,1,U⟩ (X (S ⟨g,0,U⟩) v cap)) ⟨Z w.1+1,2,U⟩ (Si S6 (NE d v))).rowIs (Z w.1+1) 79 3 (OX (Si S6 0) (X (S ⟨g,0,U⟩) v cap) (Si S6 (NE d v)))):=Y ((((aq.set 0 _).set 1 _).set 2 _).congr (λi hi=>by match i,hi with|0,_=>rfl|1,_=>rfl|2,_=>rfl));have eq:Sw (Z w.1) w wr:=⟨G E_.1 O_.1,G E_.2 O_.2,G E_.3 O_.3,aJ O_.4 E_.4,λq' fb=>G (E_.6 q' (oN O_.4) O) (O_.5 q' fb)⟩;have ca:(λL_:World=>Q (Sw (Z w.1) w L_)/\Q (HK L_ g v cap d)) (Se (Se (Se wr ⟨Z w.1+1,0,U⟩ (Si S6 0)) ⟨Z w.1+1,1,U⟩ (X (S ⟨g,0,U⟩) v cap)) ⟨Z w.1+1,2,U⟩ (Si S6 (NE d v))):=⟨Y<|((eq.setCell gX _).setCell gX _).setCell gX _,(Y<|((E_.7.setOther (by show g≠Z w.1+1;omega) _).setOther (by show g≠Z w.1+1;omega) _).setOther (by show g≠Z w.1+1;omega) _)⟩;generalize (Se (Se (Se wr _ _) _ _) _ _)=w9 at*;obtain⟨dl,dz⟩:=ca;have r0:=bt.cell (i:=0) vY;have r1:=bt.cell (i:=1) vY;have r2:=bt.cell (i:=2) vY;simp only[OX]at r0 r1 r2;refine YL (v:=Sa #[Si S6 0,X (S ⟨g,0,U⟩) v cap,Si S6 (NE d v)]) ?_;refine⟨af,HP,g,cap,?_⟩;rw[<-br.o,<-du.o];exact⟨R,dl,O,dz⟩
theorem LT{v}{e:Option Addr}{n c}{a:List Xe}{L B}{w:World}(ha:Q (Xp w L B e a))(u:Q (n=J a))(F:Q (J a+Xx a<=1048576))(x:B<=Z w.1)(K:Ft v a≠0):
 Sk prog 31 #[Sa #[H v,X e n c]] w λf M=>f=Rt (Sa #[H (Ft v a),Hq,H 0])/\Sw (Z w.1) w M:=by
 have r:=Y λW (s:Sw (Z w.1) w W)=>KT v c (Y<|ha.keep (s.mono x)) u F (oN s.4);have P_:(Ft v a==0)=Sn:=by simpa using K
 generalize Ft v a=V at*
 go_in
 go_wp2_with fail
 have k:(λb:World=>Sw (Z w.1) w b/\Z w.1+2<=Z b.1/\Q (b.1[Z w.1+1]?=S (Sc #[H 0,Hq,H 0] 79))) (D (D w<|Sc #[H v,X e n c] 25) (Sc #[H 0,Hq,H 0] 79)):=⟨Xb (Xb Rf _) _,sP,(Y (by have:=World.alloc_heap_new (D w<|Sc #[H v,X e n c] 25) (Sc #[H 0,Hq,H 0] 79);rwa[aO]at this))⟩
 generalize D (D w _) _=R_ at*;let⟨l,Q_,q⟩:=k;refine YU (r _ l) λp m=>?_;have z:=Y<|Xg l m;have d:Q (p.rowIs (Z w.1+1) 79 3 (OX (H 0) Hq (H 0))):=Y ⟨_,G (m.5 _ O) q,R,λi o=>by match i,o with|0,_=>rfl|1,_=>rfl|2,_=>rfl⟩;have J_:=d.cell (i:=0) vY;have K_:=d.cell (i:=1) vY;have M_:=d.cell (i:=2) vY;have N_:=d.frozen;have G_:∀(W:World)(i j:N)(y:Value),i≠j->E (Se W (A (Z w.1+1) i) y) (A (Z w.1+1) j)=E W (A (Z w.1+1) j):=λW i j y P=>cJ λf=>P<|fI Addr.off f;go_wp2_with fail
 have k:(λb:World=>Q (b.rowIs (Z w.1+1) 79 3 (OX (H V) Hq (H 0)))/\Q (Sw (Z w.1) w b)) (Se (Se (Se p (A (Z w.1+1) 0) (H V)) (A (Z w.1+1) 1) Hq) (A (Z w.1+1) 2) (H 0)):=⟨(Y<|(((d.set 0 _).set 1 _).set 2 _).congr (λi o=>by match i,o with|0,_=>rfl|1,_=>rfl|2,_=>rfl)),Y<|((z.setCell gX _).setCell gX _).setCell gX _⟩;generalize (Se (Se (Se p _ _) _ _) _ _)=S_ at*;let⟨h,T⟩:=k;have t:=h.cell (i:=0) vY;have u_:=h.cell (i:=1) vY;have x_:=h.cell (i:=2) vY;simp only[OX]at t u_ x_;exact YL (v:=Sa #[H V,Hq,H 0]) ⟨R,T⟩
end
end Go.Proofs.YtcncjgijikoapaaGreatDoor
