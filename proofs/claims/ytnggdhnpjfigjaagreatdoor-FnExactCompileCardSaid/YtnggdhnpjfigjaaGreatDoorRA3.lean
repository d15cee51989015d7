import Derived.Test.YtnggdhnpjfigjaaGreatDoorPS2
import Derived.Test.YtnggdhnpjfigjaaGreatDoorSQ11
namespace Go.Proofs.YtnggdhnpjfigjaaGreatDoor
set_option maxHeartbeats 4000000
set_option maxRecDepth 100000
open _root_ renaming Array.size->Z,List.length->J,Nat->N,Int->I,rfl->R,Option.some->S,Option.none->U,Bool.false->Sn,absurd->Sz,Bool.true->So
open Go renaming World.cell?->E,World.alloc->D,IntKind.i64->S6,Obj.cells->Sc,Ending.returned->Rt,RowKit.Below->Sw,Calls->Sk,World.ownsRow->Sx
open Value renaming slice->X,int->Si,agg->Sa,string->Sg,bool->Sb
open Go.RowKit Go.Proofs.Tryz
variable{t:I}{n m k c:N}{w v:Ub}{p:Uy}
theorem sH(h:Jn w)(k:Sw (Z w.1) w v):Jn v:=h.of_block<|k.5 _ (aI w _<|h 0 vY)
def Al(w a:Ub)(r:Pg)(e:Ending):Prop:=∃b L B,e=Rt b/\Sw (Z w.1) w a/\(Z w.1<=L/\L<=B/\B<=Z a.1)/\jy a L B r.1 r.2 r.3 r.k r.l b
theorem Li{C:Wn}(ha:Q (Yx w m k p C))(Z_:Q (n=J C))(ca:n<=c)(b7:c<=9223372036854775807)(hB:k<=Z w.1)(hM:Q (ft w))(d:Q (Yy w))(e:Q (Yb w))(hE:Q (ErrT w))(hZ:Q (Jn w))(Q_:Pg)(x:Q (f8 (C2 C) t=Q_))(ht:Q (J (C2 C).3.2+Xx (C2 C).3.2<=100000)):
 Sk prog 13 #[X p n c,H t] w λo w'=>Al w w' Q_ o:=by
 obtain⟨g,j⟩:∃g,D w (Sc #[Si S6 0,Si S6 0,Si S6 0,Si S6 0,X U 0 0] 32)=g:=⟨_,R⟩;have L:Q (∀W,Sw (Z g.1) g W->Sw (Z w.1) w W/\Z w.1<Z W.1/\(E W ⟨Z w.1,0,U⟩=S (Si S6 0)/\E W ⟨Z w.1,1,U⟩=S (Si S6 0)/\E W ⟨Z w.1,2,U⟩=S (Si S6 0)/\E W ⟨Z w.1,3,U⟩=S (Si S6 0)/\E W ⟨Z w.1,4,U⟩=S (X U 0 0))/\∀aa,W.frozen? ⟨Z w.1,aa,U⟩=Sn):=Y (λW h=>by
  have hz:Z g.1=Z w.1+1:=by rw[<-j];exact aO _ _
  have i:=h.5 (Z w.1) O;have hs:=h.4;exact⟨(show Sw (Z w.1) w g by rw[<-j];exact Xb Rf _).trans (h.mono O),O,⟨G (Xc i) (by rw[<-j];simp),G (Xc i) (by rw[<-j];simp),G (Xc i) (by rw[<-j];simp),G (Xc i) (by rw[<-j];simp),G (Xc i) (by rw[<-j];simp)⟩,λaa=>G (bJ i) (by rw[<-j];simp)⟩)
 have v:=(L.o g<|Rf).1;have HP:=Y<|Lp Z_ ca b7 (Y<|ha.keep (v.mono hB)) (Y<|hM.keep v) (oN v.4) (Y<|d.keep v d.1) (Y<|e.keep v e.1) (Y<|hE.keep v);clear ha Z_ v hM hE;generalize C2 C=aa at*;obtain⟨u,z,R_,a⟩:=aa;dsimp only at*;have N_:Q (∀u z ne W,Sw (Z w.1) w W->Q_=⟨u,z,ne,0,[]⟩->Al w W Q_ (Rt (Sa #[Si S6 u,Si S6 z,Si S6 ne,Si S6 0,X U 0 0]))):=Y (λu z ne W h o=>by
  subst o;exact⟨_,_,_,R,h,⟨aA,aA,h.4⟩,nM⟩)
 go_in
 go_wp2_with fail
 clear j;refine HP.mono ?_;rintro o b⟨val,rfl,al,S_,q,rfl,q_⟩;obtain⟨f,cp,⟨r0,r1,r2,r3,r4⟩,rz⟩:=L.o b al;have bq:=Y f;have a4:=Y al;have HY:=Y q_;clear f al q_ HP;dsimp only;by_cases az:u=0
 .subst az
  obtain⟨r,M⟩:∃r,D b (Sc #[Si S6 0,Si S6 z,Si S6 R_,X S_ (J a) q] 42)=r:=⟨_,R⟩;have O_:Q (∀W,Sw (Z r.1) r W->Sw (Z g.1) g W/\Z b.1<Z W.1/\(E W ⟨Z b.1,0,U⟩=S (Si S6 0)/\E W ⟨Z b.1,2,U⟩=S (Si S6 R_)/\E W ⟨Z b.1,3,U⟩=S (X S_ (J a) q))/\Xp W (Z g.1) (Z b.1) S_ a):=Y (λW h=>by
   have hz:Z r.1=Z b.1+1:=by rw[<-M];exact aO _ _
   have i:=h.5 (Z b.1) O;have hs:=h.4;have k1:=(show Sw (Z b.1) b r by rw[<-M];exact Xb Rf _).trans (h.mono O);exact⟨Xg a4.o k1,O,⟨G (Xc i) (by rw[<-M];simp),G (Xc i) (by rw[<-M];simp),G (Xc i) (by rw[<-M];simp)⟩,HY.keep k1⟩)
  have U_:Q (J a+Xx a<=1048576):=Y<|oN ht.o;obtain⟨hA,c6,⟨p0,P,T⟩,bo⟩:=O_.o r<|Rf;have ar:=(L.o r hA).1;have ba:=Y<|Te R_ (J a) q (Y bo) (Y R) U_ O (Y<|d.keep ar d.1) (Y<|e.keep ar e.1);have cj:=Y hA;clear bo hA ar a4;go_wp2_with fail
  clear M r0 r1 r2 r3 r4 rz;refine ba.mono ?_;rintro o w2⟨rfl,ao⟩;obtain⟨af,cq,⟨p0,P,T⟩,bl⟩:=O_.o w2 ao;obtain⟨f,cr,⟨r0,r1,r2,r3,r4⟩,rz⟩:=L.o w2 af;have L_:=Y f;have a2:=Y ao;have b1:=Y bl;have cg:=Y af;clear f ao bl af ba;by_cases y:Ft R_ a=0
  .have Y_:=pM y;obtain⟨V,rfl⟩:=wJ Y_;have l:=Y y;have b0:=Y Y_;have s:=Y<|XH Y_;have hV:=s.2;rw[y];clear y Y_;by_cases b5:t<1
   .go_wp2;exact cC (v:=Sa #[Si S6 12,Si S6 0,Si S6 0,Si S6 0,X U 0 0]) (by simp[results,results13,go_sem, *]) R (N_.o _ _ _ _ (by repeat' (first|with_reducible exact L_.o|with_reducible refine Below.setCell ?_ ?_ _|with_reducible refine Xb ?_ _|exact aA)) (by rw[<-x.o];unfold f8;rw[aM λh=>h R,aM λh=>h l.o,aU<|bC b5]))
   by_cases b6:64<t
   .go_wp2;exact cC (v:=Sa #[Si S6 12,Si S6 0,Si S6 0,Si S6 0,X U 0 0]) (by simp[results,results13,go_sem, *]) R (N_.o _ _ _ _ (by repeat' (first|with_reducible exact L_.o|with_reducible refine Below.setCell ?_ ?_ _|with_reducible refine Xb ?_ _|exact aA)) (by rw[<-x.o];unfold f8;rw[aM λh=>h R,aM λh=>h l.o,aU<|aZ b6]))
   have a8:=Y<|DQ (J a) q b1 (Y R) U_ O (Y<|d.keep L_.o d.1) (Y<|e.keep L_.o e.1) b0 s;generalize bi:NW (Zw a V (J a))=P_ at*;have T_:=Y bi;clear bi;go_wp2_with fail
   refine a8.mono ?_;rintro o K⟨rfl,ap⟩;obtain⟨aj,cs,⟨p0,P,T⟩,bm⟩:=O_.o K<|Xg a2.o ap;obtain⟨f,cv,⟨r0,r1,r2,r3,r4⟩,rz⟩:=L.o K aj;have M_:=Y f;have a3:=Y<|Xg a2.o ap;have b3:=Y bm;have ch:=Y aj;clear f ap bm aj a8;by_cases b8:t<(P_:I)
   .go_wp2;exact cC (v:=Sa #[Si S6 13,Si S6 0,Si S6 (P_:I),Si S6 0,X U 0 0]) (by simp[results,results13,go_sem, *]) R (N_.o _ _ _ _ (by repeat' (first|with_reducible exact M_.o|with_reducible refine Below.setCell ?_ ?_ _|with_reducible refine Xb ?_ _|exact aA)) (by rw[<-x.o];unfold f8;rw[aM λh=>h R,aM λh=>h l.o,aM O,aU<|by dsimp only;rw[dM,T_.o];exact b8];dsimp only;rw[dM,T_.o]))
   have ad:=Y (wK l.o (k:=t) (by rw[T_.o];omega) O);have D_:=Y (yo (OJ V a) a s.1.2 λce Z_=>(s.10 ce Z_).1);have a5:=Y (By q K.drew (Y b3.o) (Y R) U_ (by show _<=Z K.1;omega) (Y<|d.keep M_.drew d.1) (Y<|e.keep M_.drew e.1) (Y<|sH hZ.o M_.drew) l (Y s.1.model));go_wp2_with fail
   refine Y7 (λw'=>E w' ⟨Z b.1,2,U⟩=S (Si S6 (V:I))/\E w' ⟨Z b.1,3,U⟩=S (X S_ (J a) q)) λhHeld=>?_;refine Xn 0 ?_;refine Xn 1 ?_;refine Xn 2 ?_;refine Xn 3 ?_;refine Xn 4 ?_;refine Xn 7 ?_;refine Xs 5 λbc hK=>?_;go_simp;refine a5.mono ?_;rintro o B⟨X_,rfl,F,cl,bf⟩;have F:=Xg (Below.refl (Z K.1) K).drew F;have bv:Q (HK B X_ V V<|PK V a):=Y bf;obtain⟨bd,cw,⟨p0,P,T⟩,bn⟩:=O_.o B<|Xg a3.o F;have ci:=Y bd;have bb:=Y bn;have C_:=Y<|Xg M_.o F;have br:=Y<|Xg a3.o F;generalize NE _ V=ct;have b4:∀W,(Instr.field 45 (Sa #[Si S6 0,X (S ⟨X_,0,U⟩) V V,Si S6 ct]) 1).run prog W=.ok (X (S ⟨X_,0,U⟩) V V) W:=λW=>vZ;refine hK _ _ ⟨P,T⟩ λhHeld=>?_;clear hK bf F bd bn a5
   try simp only[xX]
   refine Xn 6 ?_;refine Xs 8 λbc hK=>?_;clear b4;have ac:Q (Xf B 0 (Z B.1) (S ⟨X_,0,U⟩) (OJ V a)):=Y bv.ints;have a9:=Y (λ(W:Ub)(h:Sw (Z B.1) B W)=>My S_ (J a) q (Z g.1) (Z b.1) V V (Y<|bb.keep (h.mono O)) (Y R) U_ (oN h.4) (Y<|d.keep (Xg C_.o h) d.1) (Y<|e.keep (Xg C_.o h) e.1) (Y<|sH hZ.o (Xg C_.o h)) (Y<|ac.keep h) (Y<|by simp[OJ]) h.4 O ad);have hq:=ad.o;have a6:=Y (Hi bb (Y R) O s ac (Y<|by simp[OJ]) (Y R) aA ⟨O,O⟩ (Y<|d.keep C_.o d.1) (Y<|e.keep C_.o e.1) (Y λcf hz=>by have:=hq.2.2.2.2.1 cf hz;omega) (Y s.1.4) a9);have bx:Q (Q_=⟨0,0,P_,t,NK (OJ V a) a⟩):=Y (by rw[<-x.o];unfold f8;rw[aM λh=>h R,aM λh=>h l.o,aM O];dsimp only;rw[dM,T_.o,aM O]);clear a9 ad ac x hq;generalize NK (OJ V a) a=bp at*;go_simp;refine a6.mono ?_;rintro o w5⟨a0,a1,rfl,aq,bh⟩;obtain⟨be,cx,⟨p0,P,T⟩,_⟩:=O_.o w5<|Xg br.o aq;obtain⟨f,cz,⟨r0,r1,r2,r3,r4⟩,rz⟩:=L.o w5 be;have bt:=Y f;have a7:=Y bh;have cb:=aq.4;refine hK _ _ ⟨P,T⟩ λhHeld=>?_;clear hK f aq bh a6 be
   try simp only[xX]
   refine Xn 9 ?_;refine Xs 10 λbc hK=>?_;go_simp;have cm:Z w.1≠Z b.1:=O;refine hK _ _ kP λhHeld=>?_;clear hK;refine Yq ?_;go_wp2;refine cC (v:=Sa #[Si S6 0,Si S6 0,Si S6 (P_:I),Si S6 t,X a0 (J bp) a1]) (by simp[results,results13,go_sem, *]) R ⟨_,Z B.1,Z w5.1,R,by repeat' (first|with_reducible exact bt.o|with_reducible refine Below.setCell ?_ ?_ _|with_reducible refine Xb ?_ _|exact aA),⟨C_.o.4,cb,sP⟩,?_⟩;rw[bx.o];obtain⟨cc,iv,hm⟩:=a7.o;refine⟨a0,_,a1,R,a0,_,a1,R,hm.at_.keepS λcd q1 _=>?_,R,D_.1,λab q_=>by have:=D_.2 ab q_;omega⟩
   repeat rw[Below.heap_setCell _ _ _ _<|by dsimp only;omega]
  have cn:=jJ.2 y;have l:=Y y;clear y;go_wp2;exact cC (v:=Sa #[Si S6 (Ft R_ a),Si S6 0,Si S6 0,Si S6 0,X U 0 0]) (by simp[results,results13,go_sem, *]) R (N_.o _ _ _ _ (by repeat' (first|with_reducible exact L_.o|with_reducible refine Below.setCell ?_ ?_ _|with_reducible refine Xb ?_ _|exact aA)) (by rw[<-x.o];unfold f8;rw[aM λh=>h R,aU l.o]))
 have ck:=jJ.2 az;go_wp2;exact cC (v:=Sa #[Si S6 u,Si S6 (z:I),Si S6 0,Si S6 0,X U 0 0]) (by simp[results,results13,go_sem, *]) R (N_.o _ _ _ _ (by repeat' (first|with_reducible exact bq.o|with_reducible refine Below.setCell ?_ ?_ _|with_reducible refine Xb ?_ _|exact aA)) (by rw[<-x.o];unfold f8;rw[aU az]))
theorem cD1:∀(ls:Vw)(i:N)(s:NX)(c:I)(l:N),dy ls i s=.bad c l->(0<=c/\c<=8)/\l<=i+J ls
 |[],i,s,c,l,h=>by simp[dy]at h
 |a::ls,i,s,c,l,h=>by
  cases hl:bk s a with
  |bad d=>
   simp only[dy,hl,Bd.bad.injEq]at h;obtain⟨rfl,rfl⟩:=h;refine⟨?_,by simp⟩;unfold bk at hl;split at hl;·cases hl;omega
   split at hl
   .cases hl;unfold C0;repeat' split
    all_goals omega
   split at hl<;>cases hl;omega
  |ok s1=>simp only[dy,hl]at h;have d:=cD1 ls (i+1) s1 c l h;simp;omega
theorem cD2(a:Wn):(0<=(C2 a).1/\(C2 a).1<=9)/\(C2 a).2<=100003:=by
 have L:=L6 a;unfold C2;split;·simp[au]
 rename_i e;split;·simp[au]
 unfold p8;split;·simp[au]
 unfold mi;split
 .rename_i d;have:=cD1 _ _ _ _ _ d;simp[au]at this |-;omega
 split;·simp[au];omega
 split<;>simp[au]
def cBy(r:Pg):Wn:=if r.1≠0 then Wbg_ [101,114,114,111,114] [r.1,r.2,r.3]else Wbg_ [111,107] [r.3]++Wcz_ r.k r.l
structure cRy(r:Pg):Prop where
 a:0<=r.1/\r.1<=13
 b:0<=r.2/\r.2<=100003
 c:0<=r.3/\r.3<=100003
 d:J r.l+Wae_ r.l<=16777216
theorem cD3:∀(l:List ag),(∀y∈l,J y.1<=4128)->Wae_ l<=J l*4128
 |[],_=>by simp[Wae_]
 |x::l,h=>by
  have c:=cD3 l λy b=>h y<|cN _ b;have d:=h x<|cI ..;have a:Wae_ (x::l)=J x.1+Wae_ l:=by simp[Wae_]
  rw[a,bA];omega
theorem cD4(a:Wn)(k:I):cRy (f8 (C2 a) k):=by
 have d:=cD2 a;generalize C2 a=o at*;obtain⟨c,l,v,x⟩:=o;dsimp only at d;have b:∀(u:I)(z:N)(n:I),(0<=u/\u<=13)->z<=100003->(0<=n/\n<=100003)->cRy ⟨u,z,n,0,[]⟩:=λu z n p q s=>⟨p,SG,s,by simp[Wae_]⟩
 unfold f8;dsimp only;split;·exact b _ _ _ O d.2 O
 split
 .refine b _ 0 _ ?_ O O;unfold Ft;repeat' split
  all_goals omega
 rename_i h;have h:=Classical.not_not.1 h;have f:=pM h;obtain⟨V,rfl⟩:=wJ f;have s:=XH f;have hV:=s.2;have B:=@B7 x V;rw[dM];split;·exact b 12 0 0 O O O
 split;·exact b 13 0 _ O O O
 have g:=yo (OJ V x) x s.1.2 λe i=>(s.10 e i).1;have j:=cD3 _ g.2;constructor<;>dsimp only<;>omega
theorem cD5{k:I}{l:List ag}:J (Wcz_ k l)<=2000100:=by
 unfold Wcz_;split
 .rename_i a;let⟨b,c⟩:=Wcy_ a;have d:=Wcv_ b c;have e:=Wak_ l;simp only[Wao_,Wan_,bY,bD]at a;omega
 exact vY
theorem cD6{r:Pg}(h:cRy r):J (cBy r)<=2001000:=by
 have e:∀x:I,0<=x/\x<=100003->Wbn_ x:=λx h=>by
  unfold Wbn_;omega
 have a:=Wbr_ [101,114,114,111,114] [r.1,r.2,r.3] λv c=>e v (by simp at c;have:=h.a;have:=h.b;have:=h.c;omega);have b:=Wbr_ [111,107] [r.3] λv c=>e v (by simp at c;have:=h.c;omega);have d:=cD5 (k:=r.k) (l:=r.l);unfold cBy;split;·exact aJ a (by simp)
 rw[aQ];simp at b;omega
section
attribute [local go_sem ↓] Go.wp_at_zero Go.wp_at_succ
def cLn(f:N)(w:Ub):Prop:=∀(W:Ub)(B s:N)(u:Uj)(q:Wn)(y:Wc),Sw (Z w.1) w W->Z w.1<=B->B<=s->B<=Z W.1->Sx W B 5 1 u 0 []->u≠Hq->u.ownBlock≠S s->W.1[s]?=S (Sc (y.map (Si S6)).toArray 2)->(∀v∈y,Wbn_ v)->J q<=5->J y<=3->
 Sk prog f #[u,Sg (K8 q),X (S ⟨s,0,U⟩) (J y) (J y)] W λe a=>∃v,e=Rt v/\Sw B W a/\v≠Hq/\Sx a B 5 1 v (J (Wbg_ q y)) (Wab_<|Wbg_ q y)
def cEn(f:N)(w:Ub):Prop:=∀(W:Ub)(L B:N)(k:I)(a:Uy)(n c:N)(l:List ag),Sw (Z w.1) w W->d7 W L B a l->n=J l->J l+Wae_ l<=16777216->B<=Z W.1->
 Sk prog f #[Sa #[H k,X a n c]] W λe x=>∃v,e=Rt v/\Sw (Z W.1) W x/\v≠Hq/\Sx x (Z W.1) 5 1 v (J (Wcz_ k l)) (Wab_<|Wcz_ k l)
theorem COa{fc fa fl fe:N}(hf:(fc=4/\fa=10/\fl=11/\fe=12)\/(fc=6/\fa=13/\fl=14/\fe=15))(p:Uy)(n c:N)(t:I)(w:Ub)(r:Pg)(hr:cRy r)(HA:Q (Sk prog fa #[X p n c,H t] w λe a=>Al w a r e))(HL:Q (cLn fl w))(HE:Q (cEn fe w)):
 Sk prog fc #[X p n c,H t] w λe a=>∃v,e=Rt v/\Sw (Z w.1) w a/\Sx a (Z w.1) 5 1 v (J (cBy r)) (Wab_<|cBy r):=by
 obtain⟨co,li,ne,k,l⟩:=r;obtain⟨r1,r2,r3,r4⟩:=hr;dsimp only at*;have HD:=Y r4;clear r4
 obtain⟨rfl,rfl,rfl,rfl⟩|⟨rfl,rfl,rfl,rfl⟩:=hf
 all_goals
  go_in
  go_wp2_with fail
  refine HA.o.mono ?_;rintro e a⟨C,L,B,rfl,b1,⟨z1,z2,z3⟩,h⟩;obtain⟨q,m,d,rfl,_,_,_,e0,j,hm,_⟩:=h;cases e0;clear HA
  obtain⟨x,hx⟩:∃x,D a (Sc #[H co,H li,H ne,H k,X q m d] 32)=x:=⟨_,R⟩
  have HF:Q (∀W,Sw (Z x.1) x W->Sw (Z w.1) w W/\(E W (A (Z a.1) 0)=S (H co)/\E W (A (Z a.1) 1)=S (H li)/\E W (A (Z a.1) 2)=S (H ne)/\E W (A (Z a.1) 3)=S (H k)/\E W (A (Z a.1) 4)=S (X q m d))/\d7 W L B q l/\Z a.1<Z W.1):=Y (λW h=>by
   subst hx;have i:=h.5 (Z a.1) sP;have s:=h.4;simp at s;have k1:=(Xb (Below.refl (Z a.1) a) (Sc #[H co,H li,H ne,H k,X q m d] 32)).trans (h.mono sP);exact⟨Xg b1 k1,⟨G (Xc i) sP,G (Xc i) sP,G (Xc i) sP,G (Xc i) sP,G (Xc i) sP⟩,j.keepS λx _ y=>k1.5 x O,O⟩)
  have HM:=Y hm;clear j hm b1
  obtain⟨b2,⟨c0,c1,c2,c3,c4⟩,_,xs⟩:=HF x Rf;have B2:=Y b2;clear b2
  by_cases hc:co=0
  .subst hc
   go_wp2_with fail
   have bd:=(Below.refl (Z x.1) x).drew;refine Y7 (λW=>E W (A (Z a.1) 2)=S (H ne)/\E W (A (Z a.1) 3)=S (H k)/\E W (A (Z a.1) 4)=S (X q m d)) λhHeld=>?_
   generalize x.drew=y at*;have HY:=Y bd;clear bd
   have hin:∀v∈[ne],Wbn_ v:=λv h=>by
    simp at h;subst h;unfold Wbn_;omega
   have HA:=Y<|HL.o (D (D y<|.cells #[] 5)<|.cells #[H ne] 2) (Z y.1) (Z y.1+1) (Hl (Z y.1) 0 0) [111,107] [ne] (Xb (Xb (HF.o y HY.o).1 _) _) (HF.o y HY.o).1.4 O SB ((Wcm_ y).alloc _) sP (by simp[Value.ownBlock]) (by have:=heap_alloc_new (D y<|.cells #[] 5) (Sc #[H ne] 2);rw[aO]at this;exact this) hin vY sP
   have HB:=Y<|HL.o (D (D y<|.cells #[H ne] 2)<|.cells #[] 5) (Z y.1) (Z y.1) (Hl (Z y.1+1) 0 0) [111,107] [ne] (Xb (Xb (HF.o y HY.o).1 _) _) (HF.o y HY.o).1.4 O SB (by have:=Wcm_ (D y<|.cells #[H ne] 2);rw[aO]at this;exact Zk this O) sP (by simp[Value.ownBlock]) (G (Below.heap_alloc _ _ _ (by simp)) (heap_alloc_new y _)) hin vY sP
   refine Xn 1 ?_;refine Xn 2 ?_;refine Xn 5 ?_;refine Xn 6 ?_
   refine eS (rs:=[0,3]) vZ sP (bQ R (λK hK=>?_) (bQ R (λK hK=>?_) dY))
   focus
    go_simp;refine hK _ _ kP λhHeld=>?_;clear hK
    try simp only[xX]
    refine Xs 3 λK hK=>?_;go_simp;refine hK _ _ kP λhHeld=>?_;clear hK
    try simp only[xX]
    refine Xs 4 λK hK=>?_;go_simp;refine HA.o.mono ?_
   rotate_left
   focus
    go_simp;refine hK _ _ kP λhHeld=>?_;clear hK
    try simp only[xX]
    refine Xs 0 λK hK=>?_;go_simp;refine hK _ _ kP λhHeld=>?_;clear hK
    try simp only[xX]
    refine Xs 4 λK hK=>?_;go_simp;refine HB.o.mono ?_
   all_goals
    rintro e v⟨V,rfl,b3,nn,o⟩;have b3:=(Xb (Xb (Below.refl (Z y.1) y) _) _).trans b3;obtain⟨bw,⟨_,_,c2,c3,c4⟩,j,vs⟩:=HF.o v (Xg HY.o b3);have BW:=Y bw;have O1:=Y o;have B3:=Y b3;have HD2:=Y j;have NN:=Y nn;clear bw o b3 j nn HA HB;refine hK _ _ ⟨c2,c3,c4⟩ λhHeld=>?_;clear hK
    try simp only[xX]
    refine Xs 7 λK hK=>?_;go_simp;refine(HE.o v L B k q m d l BW.o HD2.o HM.o HD.o O).mono ?_;rintro e z⟨V2,rfl,b5,n2,o2⟩;have O3:=Y<|Wbh_ O1.o b5;have B5:=Y<|Xg B3.o b5;have O2:=Y o2;obtain⟨rfl,-⟩|⟨g,cc,rfl,hg,-⟩:=Vc o2;·exact Sz R n2
    obtain⟨bw,⟨_,_,c2,c3,c4⟩,_,zs⟩:=HF.o z (Xg HY.o B5.o);clear o2 b5 bw;refine hK _ _ ⟨c2,c3,c4⟩ λhHeld=>?_;clear hK
    try simp only[xX]
    obtain⟨i0,hi0,hz0,hz1,hz2⟩:=fX Wat_;have hl:=cD5 (k:=k) (l:=l);have hw:=Wbr_ [111,107] [ne] hin;simp at hw;refine Xs 8 λK hK=>?_;refine d6 R _ _ 22 R (Z y.1) 5 i0 (Si .u8 0) 1 1 underlying22 hi0 hz0 hz1 hz2 R vY V _ _ R O3.o (A g 0) _ cc _ R ?s1 (λl u a=>by rw[ja];exact Jj O2.o a) ?s3 ?s4 ?s5 ?s6 ?_
    case s1=>simp[Wab_]
    case s3=>intro u h;obtain⟨b,-,rfl⟩:=aY.1 h;rfl
    case s4=>unfold maxLen;omega
    case s5=>omega
    case s6=>exact B5.o.4
    intro V3 u3 o3 g3 _ _
    have B6:=Y (B5.o.grown g3 B5.o.4 λf h=>(O3.o.lt f h).1);have O4:=Y o3;obtain⟨bw,⟨_,_,c2,c3,c4⟩,_,us⟩:=HF.o u3 (HY.o.trans (B6.o.mono HY.o.4));have BF:=Y bw;clear o3 g3 bw;refine hK _ _ ⟨c2,c3,c4⟩ λhHeld=>?_;clear hK
    try simp only[xX]
    refine Xs 9 λK hK=>?_;go_simp;refine hK _ _ kP λhHeld=>?_;clear hK;refine Yq ?_;go_wp2;go_ret;refine⟨_,R,BF.o,?_⟩;have O5:=Zk O4.o (m:=Z w.1) (oP HY.o.4 B2.o.4);unfold cBy;rw[aM λh=>h R,aQ,Wad_];exact O5
  have hb:=jJ.2 hc;have hin:∀v∈[co,li,ne],Wbn_ v:=λv h=>by
   simp at h;unfold Wbn_;omega
  have HA:=Y<|HL.o (D (D x<|.cells #[] 5)<|.cells #[H co,H li,H ne] 2) (Z x.1) (Z x.1+1) (Hl (Z x.1) 0 0) [101,114,114,111,114] [co,li,ne] (Xb (Xb B2.o _) _) B2.o.4 O SB ((Wcm_ x).alloc _) sP (by simp[Value.ownBlock]) (by have:=heap_alloc_new (D x<|.cells #[] 5) (Sc #[H co,H li,H ne] 2);rw[aO]at this;exact this) hin vY sP
  go_wp2_with fail
  refine HA.o.mono ?_;rintro e v⟨V,rfl,b3,_,o⟩;have B3:=Y<|Xg B2.o ((Xb (Xb (Below.refl (Z x.1) x) _) _).trans b3);have O1:=Y o;clear b3 o;go_wp2;go_ret;refine⟨_,R,B3.o,?_⟩;have O5:=Zk O1.o (m:=Z w.1) B2.o.4;unfold cBy;rw[aU hc];exact O5
end
theorem cLr{W:Ub}{B s:N}{y:Wc}(h:B<=s)(k:W.1[s]?=S (Sc (y.map (Si S6)).toArray 2)):∀x,Wb3_ B W x->Xf x B (Z W.1) (S ⟨s,0,U⟩) y:=Wcg_ ⟨_,_,k⟩ h λi c=>by
 simp[World.cell?,k,c]
theorem cLS(w:Ub):cLn 11 w:=λW B s u q y b h1 h2 h3 o n d k i l1 l2=>by
 have L:=Wbr_ q y i;have f:=(aS.1 k).1
 refine(Wbi_ (L:=s) (M:=s+1) (xs:=[]) h3 (Y o) (Y n) (Y SB) (Y λj c=>⟨s,0,R,⟨aA,iJ⟩,by simp[World.cell?,k,c]⟩) f (Y λg e=>by
  have:g≠s:=λz=>d (z▸e)
  omega) (Y R) (Y i)).mono ?_;rintro e a⟨v,rfl,g,m,x⟩;exact⟨v,R,g.below o Rf h3,m,x⟩
theorem cLI{w:Ub}(P:Wb1_ (Z w.1) w):cLn 14 w:=λW B s u q y b h1 h2 h3 o n d k i l1 l2=>by
 have L:=Wbr_ q y i
 refine(Wb6_ (xs:=[]) B (Z W.1) h3 (Y o) (Y SB) (Y<|cLr h2 k) (Y R) (Y i) (Y λx h=>P x (b.trans (h.mono h1)))).mono ?_;rintro e a⟨v,rfl,g,x⟩;exact⟨v,R,g.below,Wd0_ x (by simp[Wbg_];omega),x⟩
theorem cES(w:Ub):cEn 12 w:=λW L B k a n c l _ b h s z=>Wcn_ k a n c l L B W (Y b) (Y h) (Y s) z
theorem cEI{w:Ub}(P:Wb1_ (Z w.1) w)(d:Yy w)(T:Yb w):cEn 15 w:=λW L B k a n c l b e h s z=>Wc1_ k a n c l L B W (Y e) (Y h) (Y s) z (Y<|d.keep b d.1) (Y<|T.keep b T.1) (Y λx h=>P x (Xg b h))
def cP(w:Ub)(y:Wn)(e:Ending)(a:Ub):Prop:=∃v,e=Rt v/\Sw (Z w.1) w a/\Sx a (Z w.1) 5 1 v (J y) (Wab_ y)
theorem cSS{w:Ub}{p:Uy}{n c m k:N}{t:I}{x:Wn}(ha:Q (Yx w m k p x))(B:Q (n=J x))(b:n<=c)(d:n<=9223372036854775807)(hB:k<=Z w.1)(r:Pg)(h:Q (f8 (C2 x) t=r)):Sk prog 4 #[X p n c,H t] w (cP w (cBy r)):=by
 refine COa (bC ⟨R,R,R,R⟩) p n c t w r (h.o▸cD4 x t) (Y ?_) (Y<|cLS w) (Y<|cES w);refine(KX ha B b d hB r h (Y<|LF x)).mono ?_;rintro e a⟨i,rfl,f,g⟩;exact⟨i,_,_,R,f,⟨aA,f.4,aA⟩,g⟩
theorem cSI{w:Ub}{p:Uy}{n c m k:N}{t:I}{x:Wn}(ha:Q (Yx w m k p x))(B:Q (n=J x))(b:n<=c)(d:c<=9223372036854775807)(hB:k<=Z w.1)(hM:Q (ft w))(hO:Q (Yy w))(hT:Q (Yb w))(hE:Q (ErrT w))(hZ:Q (Jn w))(P:Q (Wb1_ (Z w.1) w))(r:Pg)(h:Q (f8 (C2 x) t=r)):Sk prog 6 #[X p n c,H t] w (cP w (cBy r)):=
 COa (aZ ⟨R,R,R,R⟩) p n c t w r (h.o▸cD4 x t) (Y<|Li ha B b d hB hM hO hT hE hZ r h (Y<|LF x)) (Y<|cLI P.o) (Y<|cEI P.o hO.o hT.o)
section
attribute [local go_sem ↓] Go.wp_at_zero Go.wp_at_succ
theorem cO{w:Ub}{B e n:N}{v:Uj}{y:Wn}(h:Sx w B e 1 v n (Wab_ y)):∃a c L M,v=X a (J y) c/\Yx w L M a y/\iy L M w/\(L=0/\M=0\/M=L+1/\B<=L/\L<Z w.1):=by
 obtain⟨hl,h0|⟨g,cap,cur,rfl,hg,hh,hc,_,hs,ht⟩⟩:=h
 .have:y=[]:=by
   have h2:=h0.2;subst h2;simpa [Wab_]using hl
  subst this;exact⟨U,0,0,0,h0.1,λi h=>Sz h sP,λb o h=>Sz h O,bC ⟨R,R⟩⟩
 have hn:n=J y:=by simpa [Wab_]using hl.symm
 subst hn;refine⟨_,_,g,g+1,R,λi h=>⟨g,0,R,⟨aA,iJ⟩,?_⟩,λb o h=>?_,aZ ⟨R,hg,(aS.1 hh).1⟩⟩
 .have h3:=congrArg (λl:Wo=>l[i]?) ht;simp only[List.getElem?_take,Nat.mul_one,h,if_true]at h3;simp[World.cell?,hh];rw[<-Array.getElem?_toList,h3];simp[Wab_,h]
 obtain rfl:b=g:=O;unfold World.frozen?;rw[hh];simp
structure cL(w:Ub)(a b:Uy)(L M N_ O_ z Z_:N)(y:Wn)(W:Ub):Prop where
 s:Sw (Z w.1) w W
 p:Yx W L M a y
 q:Yx W N_ O_ b y
 t:iy N_ O_ W
 r:L=0/\M=0\/M=L+1/\L<z
 u:N_=0/\O_=0\/O_=N_+1/\Z_<=N_/\N_<Z W.1
 z:Z_<=Z W.1
theorem cL.keep{w W c:Ub}{a b:Uy}{L M i j z d:N}{y:Wn}(h:cL w a b L M i j z d y W)(k:Sw (Z w.1) w c)(s:Z W.1<=Z c.1)(e:∀q,q<z\/d<=q->q<Z W.1->c.1[q]?=W.1[q]?)(f:z<=d):cL w a b L M i j z d y c:=by
 have r:=h.r;have u:=h.u;have g:=h.z;exact⟨k,h.p.keepS λq _ _=>e q O O,h.q.keepS λq _ _=>e q O O,h.t.keepS λq _ _=>e q O O,r,O,O⟩
theorem lawCo{w:Ub}{m:Wn}{p:Uy}{n c:N}{t:I}(ha:Q (Yx w 0 (Z w.1) p m))(b:Q (n=J m))(hn:n<=9223372036854775807)(hO:Q (Yy w))(hT:Q (Yb w))(hM:Q (ft w))(hE:Q (ErrT w))(hZ:Q (Jn w))(hP:Q (Wb1_ (Z w.1) w)):
 Sk prog 3 #[X p n c,H t] w λe w'=>e=Rt (Sb So)/\Sw (Z w.1) w w':=by
 by_cases ca:1048576<n
 .go_in
  go_wp2;go_ret;exact⟨R,Rf⟩
 have aa:n<=1048576:=O;obtain⟨K,hr⟩:∃K,f8 (C2 m) t=K:=⟨_,R⟩;have hl:=cD6 (r:=K) (hr▸cD4 m t);have HI:=Y λ(W:Ub)(L:N)(d:Sw (Z w.1) w W)(hb:Yx W L (Z W.1) (S ⟨L,0,U⟩) m)=>cSI (t:=t) (Y hb) b aA O aA (Y<|hM.o.keep d) (Y<|hO.o.keep d hO.o.1) (Y<|hT.o.keep d hT.o.1) (Y<|hE.o.keep d) (Y<|sH hZ.o d) (Y λx h=>hP.o x (Xg d h)) K (Y hr);have HS:=Y λ(W:Ub)(L:N)(hb:Yx W L (Z W.1) (S ⟨L,0,U⟩) m)=>cSS (t:=t) (Y hb) b aA O aA K (Y hr);clear hO hT hM hE hZ hP ca hr;generalize cBy K=y at*;have HLn:=Y hl
 go_in
 go_wp2_with fail
 refine(pL ha b aa aA).mono ?_;rintro e w1⟨rfl,a2,b1,-⟩;have s1:=a2.4;have B1:=Y a2;have Y1:=Y b1;clear a2 b1;go_wp2_with fail
 refine(HS.o w1 (Z w.1) Y1.o).mono ?_;rintro e w2⟨v2,rfl,a3,o2⟩;obtain⟨a0,c0,L0,M0,rfl,y0,-,r0⟩:=cO o2;have s2:=a3.4;have B2:=Y<|Xg B1.o a3;have Y0:=Y y0;have R0:=Y r0;clear a3 o2 y0 r0 Y1 HS;go_wp2_with fail
 refine(pL (Y<|ha.o.keep B2.o) b aa O).mono ?_;rintro e w3⟨rfl,a4,y3,i3⟩;have s3:=a4.4;have B3:=Y<|Xg B2.o a4;have Y3:=Y y3;have I3:=Y i3;have P3:=Y (Y0.o.keepS λq _ _=>a4.5 q (by have:=R0.o;omega));clear a4 y3 i3 Y0;go_wp2_with fail
 refine(HI.o w3 (Z w2.1) B3.o Y3.o).mono ?_;rintro e w4⟨v4,rfl,a5,o4⟩;obtain⟨a1,c1,L1,M1,rfl,y4,t4,r4⟩:=cO o4;have s4:=a5.4
 have C:Q (cL w a0 a1 L0 M0 L1 M1 (Z w2.1) (Z w3.1) y w4):=Y ⟨Xg B3.o a5,P3.o.keepS λq _ _=>a5.5 q (by have:=R0.o;omega),y4,t4,by have:=R0.o;omega,r4,s4⟩
 have Y4:=Y<|Y3.o.keep a5;have I4:=Y ((iy.of (B:=Z w3.1) I3.o).keepS (w':=w4) λq _ h=>a5.5 q h);clear a5 o4 y4 t4 r4 P3 Y3 I3;go_wp2_with fail
 have u0:M0<=Z w2.1:=by have:=R0.o;omega
 refine(Ke (Y C.o.q) (Y C.o.p) (Y R) O (by have:=C.o.u;omega) O).mono ?_;rintro e w5⟨rfl,a⟩;have s5:=a.4;have C5:=Y (C.o.keep (Xg C.o.1 a) s5 (λq _ h=>a.5 q h) s3);have Y5:=Y<|Y4.o.keep (a.mono s4);have I5':=Y<|I4.o.keepS (w':=w5) λq _ h=>a.5 q O;clear a C Y4 I4;go_wp2_with fail
 refine(pL (Y<|ha.o.keep C5.o.1) b aa (by have:=C5.o.1.4;omega)).mono ?_;rintro e w6⟨rfl,a,y6,-⟩;have s6:=a.4;have C6:=Y (C5.o.keep (Xg C5.o.1 a) s6 (λq _ h=>a.5 q h) s3);have Y6:=Y<|Y5.o.keep (a.mono O);have I6:=Y<|I5'.o.keepS (w':=w6) λq _ h=>a.5 q O;have Z6:=Y y6;clear a C5 Y5 I5' y6;go_wp2_with fail
 refine(Ke (Y Y6.o) (Y Z6.o) b O O aA).mono ?_;rintro e w7⟨rfl,a⟩;have s7:=a.4;have C7:=Y (C6.o.keep (Xg C6.o.1 a) s7 (λq _ h=>a.5 q h) s3);have Y7':=Y<|Y6.o.keep (a.mono O);have I7':=Y<|I6.o.keepS (w':=w7) λq _ h=>a.5 q O;clear a C6 Y6 I6 Z6;go_wp2_with fail
 refine(I5 (Y Y7'.o) b (Y I7'.o) O O O).mono ?_;rintro e w8⟨rfl,a,-⟩;have s8:=a.4;have C8:=Y (C7.o.keep (a.below C7.o.1 (by have:=B2.o.4;omega)) s8 (λq g h=>a.5 q h O) s3);have kn:¬(1+(n:I)<0):=O;clear a C7 Y7' I7';go_wp2_with fail
 refine(Ke (Y C8.o.q) (Y C8.o.p) (Y R) O (by have:=C8.o.u;have:=C8.o.z;omega) O).mono ?_;rintro e w9⟨rfl,a⟩;have s9:=a.4;have C9:=Y (C8.o.keep (Xg C8.o.1 a) s9 (λq _ h=>a.5 q h) s3);clear a C8;go_wp2_with fail
 refine(I5 (Y C9.o.q) (Y R) (Y C9.o.t) O O O).mono ?_;rintro e x1⟨rfl,a,z1⟩;have t1:=a.4;have D1:Q (Sw (Z w.1) w x1/\Yx x1 L0 M0 a0 y):=Y ?_;rotate_left
 .have u:=C9.o.u;have r:=C9.o.r;have z:=C9.o.z;have zz:=B3.o.4;refine⟨?_,C9.o.p.keepS λq _ _=>a.5 q O O⟩;obtain⟨rfl,rfl⟩|u:=u
  .exact⟨G a.1 C9.o.1.1,G a.2 C9.o.1.2,G a.3 C9.o.1.3,oP C9.o.1.4 a.4,λq h=>G (a.5 q (oN C9.o.1.4) O) (C9.o.1.5 q h)⟩
  exact a.below C9.o.1 O
 have Z1:=Y z1;clear a z1 C9;go_wp2_with fail
 refine(Wch_ a1 _ c1 1 L1 M1 x1 (Y Z1.o) O O O).mono ?_;rintro e x2⟨rfl,rfl⟩;have km:¬(1+(J y:I)<0):=O;clear Z1;go_wp2_with fail
 refine(pL (Y<|ha.o.keep D1.o.1) b aa O).mono ?_;rintro e x3⟨rfl,a,y3,-⟩;have t3:=a.4;have D3:=Y<|Xg D1.o.1 a;have P3:=Y<|D1.o.2.keep (a.mono O);have Y3:=Y y3;clear a y3 D1;go_wp2_with fail
 refine(HI.o x3 (Z x2.1) D3.o Y3.o).mono ?_;rintro e x4⟨v4,rfl,a,o4⟩;obtain⟨a4,c4,L4,M4,rfl,y4,-,r4⟩:=cO o4;have t4:=a.4;have D4:=Y<|Xg D3.o a;have P4:=Y<|P3.o.keep (a.mono O);have Y4:=Y y4;have R4:=Y r4;clear a o4 y4 r4 D3 P3 Y3;go_wp2_with fail
 refine(Ke (Y Y4.o) (Y P4.o) (Y R) O (by have:=R4.o;omega) O).mono ?_;rintro e x5⟨rfl,a⟩;have D5:=Y<|Xg D4.o a;clear a;go_wp2;go_ret;exact⟨R,D5.o⟩
end
end Go.Proofs.YtnggdhnpjfigjaaGreatDoor
