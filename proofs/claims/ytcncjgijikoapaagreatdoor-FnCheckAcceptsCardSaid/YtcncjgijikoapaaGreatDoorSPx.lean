import Derived.Test.YtcncjgijikoapaaGreatDoorTN3
namespace Go.Proofs.YtcncjgijikoapaaGreatDoor
set_option maxHeartbeats 8000000
set_option maxRecDepth 100000
open _root_ renaming Array.size->Z,List.length->J,Int->I,rfl->R,Option.some->S,Option.none->U,Bool.false->Sn
open Go renaming World.cell?->E,World.setCell->Se,IntKind.i64->S6
open Value renaming slice->X,int->Si
open Go.RowKit Go.Proofs.Tryz
theorem Q3{rk:I}(aq:11<=rk)(ar:rk<=15):oO rk:=by
 intro V G_ a4 c_ d bo ap pv iv av sb al P s2 aj Z_ b k hb pa M_ pc ia e p c3 c9 tl hl aa;obtain⟨bb,rfl⟩:=SM hl;simp only[wK,Nat.reduceAdd];clear hl;obtain⟨q0,q1,q2,q3,q4,q5,qz,f0,f1,fz,a8⟩:=aa.qs;obtain⟨hn,h1,bg,bf,bd,hV,a9,a6,be,a7,M,bh,bk,L_,am,f,T_,W_⟩:=aa
 conv=>arg 2;whnf
 have e0:(rk==0)=Sn:=by simp;omega
 have e1:(rk==1)=Sn:=by simp;omega
 have e2:(rk==2)=Sn:=by simp;omega
 have e3:(rk==3)=Sn:=by simp;omega
 have e4:(rk==4)=Sn:=by simp;omega
 have e5:(rk==5)=Sn:=by simp;omega
 have e6:(rk==6)=Sn:=by simp;omega
 have e7:(rk==7)=Sn:=by simp;omega
 have e8:(rk==8)=Sn:=by simp;omega
 have e9:(rk==9)=Sn:=by simp;omega
 have ba:(rk==10)=Sn:=by simp;omega
 go_upto_if 79 with fail
 go_cut []from 10 to 180 λwz=>Q<|vL wz Z_
 case first=>
  by_cases bi:0<M_
  .have a3:(0:I)<M_:=O;go_wp2;go_meet;exact Y R
  have a3:¬(0:I)<M_:=O;go_wp2;go_meet;exact Y R
 have z:Z_=wc:=hcut.symm;subst z;clear hcut q0 q2 q3 q4 q5 qz f0 f1 fz am
 go_upto_if 121 with fail
 go_cut []from 10 to 180 λwz=>∃af Y_ yz ab,Q (sE V d P=Y_)/\Q (jd aj wz af ap sb al Y_ (V:I) G_ a4 c_ d pv iv av b k (X pa M_ pc) yz ab)/\Q (L5 V d P=⟨(V:I),d.set b yz⟩)
 case first=>
  by_cases ac:0<e
  .have a2:(0:I)<e:=O;have T:0<J d[b].2:=by rw[<-M.o];exact ac
   have r:Q (L5 V d P=⟨(V:I),d.set b ⟨d[b].1,d[b].2.set (iw s2 (e:I)).1.toNat (ub rk V (iw s2 (e:I)).2 (d[b].2.getD (iw s2 (e:I)).1.toNat ⟨0,0,0,0,0⟩)),d[b].3⟩⟩):=Y (by rw[T_.o,aM O,aM O,M.o];simp[R6,T,show ¬rk=6 by omega,show ¬rk<6 by omega,show ¬rk<11 by omega]);have B:Q (sE V d P=ny rk V (iw s2 (e:I)).2):=Y (by rw[W_.o,M.o];simp[Ss,RT,T,show ¬rk=7 by omega,show ¬rk=0 by omega,show ¬rk=4 by omega,show ¬rk=9 by omega]);clear T_ W_;go_wp2_with fail
   refine(ki s2 (e:I) Z_ (Y L_.8) O O).mono ?_;rintro z L⟨rfl,m,n⟩;have a:=Y<|L_.call n m;have X_:=kr s2 (n:=(e:I)) O;clear m n L_ q1;obtain⟨ri,s3,ad⟩:∃a5 s9,iw s2 (e:I)=(a5,s9):=⟨_,_,R⟩;rw[ad]at a r B X_ |-;dsimp only at a r B X_ |-;clear ad;obtain⟨y,rfl⟩:=Zv X_.1;rw[dM]at r;have au:y<e:=O;have o:y<J d[b].2:=by rw[<-M.o];exact au
   rw[show d[b].2.getD y ⟨0,0,0,0,0⟩=d[b].2[y] by simp[o]]at r;obtain⟨l,ci,z⟩:=(a.6).got O;rw[f.o,<-M.o]at z;injection z with e1 _ e3;subst e1 e3;have az:rk=11\/rk=12\/rk=13\/rk=14\/rk=15:=O;clear aq ar;obtain rfl|rfl|rfl|rfl|rfl:=az
   .skip
    have g:E L ⟨k,1,U⟩=S (X (S ⟨l,0,U⟩) e p):=by rw[<-f.o];exact Bx.cell a.21 R
    have i:=Bx.c a.17 0;go_wp2_with fail
    refine Y7 (λF=>E F ⟨k,1,U⟩=S (X (S ⟨l,0,U⟩) e p)) λq=>?_;refine Xn 0 ?_;refine Xn 1 ?_;refine Xn 2 ?_;refine Xn 3 ?_;refine Xs 4 λK hK=>?_;go_simp
    go_at_call 12
    refine(ki s3 13 _ (Y a.drew.8) O O).mono ?_;rintro z c⟨rfl,m,n⟩;have h:=Y<|a.drew.call n m;clear m n;have g:E c ⟨k,1,U⟩=S (X (S ⟨l,0,U⟩) e p):=by rw[<-f.o];exact Bx.cell h.21 R
    have i:=Bx.c h.17 0;obtain⟨⟨N_,s⟩,⟨O_,t⟩,⟨P_,u⟩,⟨Q_,v⟩,⟨R_,w⟩,x,C,W⟩:=h.icells o f.o;refine hK _ _ g λq=>?_;clear hK;refine Xn 5 ?_;refine Xn 6 ?_;refine Xs 7 λK hK=>?_;go_simp;refine hK _ _ (G (Xc<|cY C) g) λq=>?_;clear hK;refine Yq ?_;clear q;have j:=Y<|h.setI (m:=0) (z:=(iw s3 13).1) (x':=ub 11 V s3 d[b].is[y]) o f.o O R;clear h a i g s t u v w x;rw[fW]at j;generalize Se c _ _=S_ at*;go_wp2;go_meet;exact⟨_,_,_,_,Y (by rw[B.o];simp[ny]),j,r⟩
   .skip
    have g:E L ⟨k,1,U⟩=S (X (S ⟨l,0,U⟩) e p):=by rw[<-f.o];exact Bx.cell a.21 R
    have i:=Bx.c a.17 0;go_wp2_with fail
    have bc:(V:I)<=1000:=O;have bl:(0:I)<=(V:I)+1:=O;have bm:(V:I)+1<=1001:=O;have bn:S6.wrap ((V:I)+1)=(V:I)+1:=by rw[dF];omega
    refine Y7 (λF=>E F ⟨k,1,U⟩=S (X (S ⟨l,0,U⟩) e p)/\E F ⟨Z aj.1,0,U⟩=S (Si S6 (V:I))) λq=>?_;refine Xn 0 ?_;refine Xn 1 ?_;refine Xn 2 ?_;refine Xn 3 ?_;refine Xn 4 ?_;refine Xn 5 ?_;refine Xn 6 ?_;refine Xs 7 λK hK=>?_;go_simp
    go_at_call 12
    refine(ki s3 ((V:I)+1) _ (Y a.drew.8) O O).mono ?_;rintro z c⟨rfl,m,n⟩;have h:=Y<|a.drew.call n m;clear m n;have g:E c ⟨k,1,U⟩=S (X (S ⟨l,0,U⟩) e p):=by rw[<-f.o];exact Bx.cell h.21 R
    have i:=Bx.c h.17 0;obtain⟨⟨N_,s⟩,⟨O_,t⟩,⟨P_,u⟩,⟨Q_,v⟩,⟨R_,w⟩,x,C,W⟩:=h.icells o f.o;refine hK _ _ ⟨g,i⟩ λq=>?_;clear hK;refine Xn 8 ?_;refine Xn 9 ?_;refine Xs 10 λK hK=>?_;go_simp;refine hK _ _ ⟨G (Xc<|cY C) g,G (Xc<|cY W) i⟩ λq=>?_;clear hK;refine Yq ?_;clear q;have j:=Y<|h.setI (m:=1) (z:=(iw s3<|(V:I)+1).1) (x':=ub 12 V s3 d[b].is[y]) o f.o O R;clear h a i g s t u v w x;generalize Se c _ _=S_ at*;go_wp2;go_meet;exact⟨_,_,_,_,Y (by rw[B.o];simp[ny]),j,r⟩
   .skip
    have g:E L ⟨k,1,U⟩=S (X (S ⟨l,0,U⟩) e p):=by rw[<-f.o];exact Bx.cell a.21 R
    have i:=Bx.c a.17 0;obtain⟨⟨N_,s⟩,⟨O_,t⟩,⟨P_,u⟩,⟨Q_,v⟩,⟨R_,w⟩,x,C,W⟩:=a.icells o f.o;go_wp2_with fail
    have j:=Y<|a.setI (m:=2) (z:=(V:I)) (x':=ub 13 V s3 d[b].2[y]) o f.o O R;clear a i g s t u v w x;generalize Se L _ _=S_ at*;go_meet;exact⟨_,_,_,_,Y (by rw[B.o];simp[ny]),j,r⟩
   .skip
    have g:E L ⟨k,1,U⟩=S (X (S ⟨l,0,U⟩) e p):=by rw[<-f.o];exact Bx.cell a.21 R
    have i:=Bx.c a.17 0;obtain⟨⟨N_,s⟩,⟨O_,t⟩,⟨P_,u⟩,⟨Q_,v⟩,⟨R_,w⟩,x,C,W⟩:=a.icells o f.o;go_wp2_with fail
    have j:=Y<|a.setI (m:=3) (z:=(-1)) (x':=ub 14 V s3 d[b].2[y]) o f.o O R;clear a i g s t u v w x;generalize Se L _ _=S_ at*;go_meet;exact⟨_,_,_,_,Y (by rw[B.o];simp[ny]),j,r⟩
   skip
   have g:E L ⟨k,1,U⟩=S (X (S ⟨l,0,U⟩) e p):=by rw[<-f.o];exact Bx.cell a.21 R
   have i:=Bx.c a.17 0;go_wp2_with fail
   refine Y7 (λF=>E F ⟨k,1,U⟩=S (X (S ⟨l,0,U⟩) e p)) λq=>?_;refine Xn 0 ?_;refine Xn 1 ?_;refine Xn 2 ?_;refine Xn 3 ?_;refine Xs 4 λK hK=>?_;go_simp
   go_at_call 12
   refine(ki s3 12 _ (Y a.drew.8) O O).mono ?_;rintro z c⟨rfl,m,n⟩;have h:=Y<|a.drew.call n m;clear m n;have g:E c ⟨k,1,U⟩=S (X (S ⟨l,0,U⟩) e p):=by rw[<-f.o];exact Bx.cell h.21 R
   have i:=Bx.c h.17 0;obtain⟨⟨N_,s⟩,⟨O_,t⟩,⟨P_,u⟩,⟨Q_,v⟩,⟨R_,w⟩,x,C,W⟩:=h.icells o f.o;refine hK _ _ g λq=>?_;clear hK;refine Xn 5 ?_;refine Xn 6 ?_;refine Xs 7 λK hK=>?_;go_simp;refine hK _ _ (G (Xc<|cY C) g) λq=>?_;clear hK;refine Yq ?_;clear q;have j:=Y<|h.setI (m:=4) (z:=(iw s3 12).1) (x':=ub 15 V s3 d[b].is[y]) o f.o O R;clear h a i g s t u v w x;generalize Se c _ _=S_ at*;go_wp2;go_meet;exact⟨_,_,_,_,Y (by rw[B.o];simp[ny]),j,r⟩
  have a2:¬(0:I)<e:=O;have T:¬0<J d[b].2:=by rw[<-M.o];exact ac
  have U_:Q (L5 V d P=⟨(V:I),d.set b d[b]⟩):=Y (by rw[T_.o,aM O,aM O];simp[R6,T,show ¬rk=6 by omega,show ¬rk<6 by omega,show ¬rk<11 by omega]);go_wp2;go_meet;exact⟨_,_,_,_,Y (by rw[W_.o];simp[Ss,RT,T,show ¬rk=7 by omega,show ¬rk=0 by omega,show ¬rk=4 by omega,show ¬rk=9 by omega]),L_,U_⟩
 obtain⟨af,Y_,yz,ab,ao,j,U_⟩:=hcut;rename_i aK;exact aK _ _<|Fo V av _ _ _ R hn hb f U_ ao j
end Go.Proofs.YtcncjgijikoapaaGreatDoor
