import Derived.Test.YtcncjgijikoapaaGreatDoorID1
namespace Go.Proofs.YtcncjgijikoapaaGreatDoor
set_option maxHeartbeats 4000000
set_option maxRecDepth 100000
open _root_ renaming Array.size->Z,List.length->J,Nat->N,Int->I,rfl->R,Option.some->S,Option.none->U,Bool.true->So,Bool.false->Sn
open Go renaming World.cell?->E,World.alloc->D,World.setCell->Se,World.ownsRow->Sx,IntKind.i64->S6,Obj.cells->Sc,Ending.returned->Rt,Calls->Sk,RowKit.intOf->JB,results->JC
open Value renaming slice->X,int->Si,agg->Sa,bool->Sb
open Go.RowKit Go.Proofs.Tryz
variable{r:Bool}{t:I}{n m k B g c:N}{w v u:Ub}{a A_:Uj}{p:Uy}{l:Wc}
theorem BQ:(prog.info? 52).map (λi=>(i.8,i.3,i.4))=S (S<|Sa #[Hq,Hq,H 0,H 0,H 0,H 0],6,80):=vZ
def LZ(w:Ub)(g:N)(t:Yj):Prop:=Bx w g #[H t.1,H t.a,H t.3,H t.4] 50
theorem LZ.put{t:Yj}(h:LZ w n t)(a:Yj):LZ (Se (Se (Se (Se w ⟨n,0,U⟩ (Si S6 a.1)) ⟨n,1,U⟩ (Si S6 a.a)) ⟨n,2,U⟩ (Si S6 a.3)) ⟨n,3,U⟩ (Si S6 a.4)) n a:=by have:=(((Bx.set h 0<|H a.1).set 1 (H a.a)).set 2 (H a.3)).set 3 (H a.4);simpa [LZ]using this
theorem LZ.cells{t:Yj}(h:LZ w n t):E w (A n 0)=S (H t.1)/\E w (A n 1)=S (H t.a)/\E w (A n 2)=S (H t.3)/\E w (A n 3)=S (H t.4):=⟨Bx.cell h R,Bx.cell h R,Bx.cell h R,Bx.cell h R⟩
theorem mO.put4{wr:Ub}{s:cB}{u0 u1 u2 u3:Uj}{d:List Yj}(h:mO w wr n m s a d)(b:Z w.1+2<=k)(c:a.ownBlock≠S k):mO w (Se (Se (Se (Se wr ⟨k,0,U⟩ u0) ⟨k,1,U⟩ u1) ⟨k,2,U⟩ u2) ⟨k,3,U⟩ u3) n m s a d:=(((h.put b c).put b c).put b c).put b c
theorem mO.push{wc:Ub}{s:cB}{e:List Yj}{kh:Yj}(h:mO w wc n m s a e)(o:Obj)(c:(D wc o).grownBy v a.ownBlock)(g:Sx v (Z w.1+2) 52 6 A_ (J e+1) (jx LQ LQ (e.map kj)++[X U 0 0,X U 0 0,Si S6 kh.1,Si S6 kh.a,Si S6 kh.3,Si S6 kh.4])):
 mO w (Se v ⟨Z w.1+1,1,U⟩ A_) n m s A_ (e++[kh])/\Bx v (Z w.1+1) #[Si S6 0,a] 25:=by
 have p:=h.7;have ha:=bW wc o U;have d:∀b,b<Z w.1+2->v.1[b]?=wc.1[b]?:=λb i=>G (c.5 b (oN ha.4) λf=>by have:=(h.6.lt b f.symm).1;omega) (ha.5 b O sP);have q:Z wc.1<=Z v.1:=aJ ha.4 c.4;have j:Bx v (Z w.1+1) #[H 0,a] 25:=h.5.keep<|d _ O;have x:=h.3;have u:=h.1.3;refine⟨⟨?_,?_,h.3,(h.4.keep<|d _ O).other O,?_,?_,by simpa [World.setCell]using Nat.le_trans p q⟩,j⟩;·exact(i9.mk (h.1.1.block (d _ O) λr _ t=>d r O) h.1.2 h.1.3 O).put O
 .exact Rv ⟨G c.1<|G ha.1 h.2.1,G c.2<|G ha.2 h.2.2,G c.3<|G ha.3 h.2.3,O,λk l i=>G (d k O) (h.2.5 k l i)⟩ O
 .have:=j.set 1 A_;simpa using this
 rw[aQ,bG];unfold jx at g |-;rw[List.map_singleton,Zo];refine fS g (λf=>?_) A_;have:=(g.lt _ f).1;simp at this
theorem NV(u:cB)(aj:Q (i9 w n m u))(bq:1<=k)(hn:k<=1000):
 Sk prog 65 #[Hn n,H k] w λe w'=>∃v,e=Rt (Sa #[H 0,v])/\i9 w' n m (oA k k 0 u []).2/\w.grownBy w' (S n)/\Sx w' (Z w.1+2) 52 6 v k (jx LQ LQ<|(oA k k 0 u []).1.map kj):=by
 go_in
 go_wp2
 go_loopw [6] (λT_ wr=>∃(o i:N)(b:cB)(j:List Yj)(v:Uj),i+o=k/\T_=H i/\Q (J j=i)/\Q (oA k o i b j=oA k k 0 u [])/\Q (mO w wr n m b v j)) λT_ _=>k-(JB T_).toNat
 .refine⟨k,0,u,[],Hq,O,R,Y R,Y R,Y ?_⟩;have o:=bW w (Sc #[H 0,Hq] 25) (S n);have k2:=bW (D w (Sc #[H 0,Hq] 25)) (Sc #[H 0,Hq] 25) (S n);refine⟨(aj.box _).box _,R9 o k2,aj.4,(Bx.new _ _ _).box _,?_,dA,sP⟩;have:=Bx.new (D w (Sc #[H 0,Hq] 25)) #[H 0,Hq] 25;rwa[aO]at this
 obtain⟨o,i,b,j,v,bo,rfl,D_,U_,d⟩:=hrel;cases o with
 |succ o=>
  have a7:i<k:=O;have bp:(i:I)<k:=O;have N_:Q (oA k o (i+1) (qK b k i).2 (j++[(qK b k i).1])=oA k k 0 u []):=U_;clear U_
  go_upto_if 19 with fail
  have x:Q (mO w (D wr (Sc #[H 3,H 0,H 0,H 0] 50)) n m b v j):=Y<|d.box _;have s:Q (LZ (D wr (Sc #[H 3,H 0,H 0,H 0] 50)) (Z wr.1) ⟨3,0,0,0⟩):=Y<|Bx.new _ _ _;have M:Q (Z w.1+2<=Z wr.1):=Y d.7;have P:Q (v.ownBlock≠S (Z wr.1)):=Y (λe=>by have:=(d.6.lt _ e).2;omega);have T:Q (n≠Z wr.1):=Y (λe=>by have:=d.1.3;have:=d.1.4;have:=d.7;have:=d.3;omega);clear d;generalize D wr _=wt at*;generalize Z wr.1=C at*
  go_cut [8]from 10 to 73 λ_ wx=>Q (mO w wx n m (qK b k i).2 v j)/\Q (LZ wx C (qK b k i).1)
  case first=>
   obtain⟨t0,t1,t2,t3⟩:=LZ.cells s.o;have tz:=Bx.thaw s.o;have a:Q (qK b k i=if i+1<k then yc (oL b k).2 (oL b k).1 ((i:I)+1)else yJ b k):=Y R;by_cases h1:i+1<k
   .rw[aU h1]at a;have a1:(i:I)+1<k:=O;by_cases V:2<k
    .have X_:(2:I)<k:=O;rw[show oL b k=(1+(iw b<|(k:I)-1).1,(iw b<|(k:I)-1).2) by unfold oL;rw[aU V]]at a;dsimp only at a;go_wp2_with fail
     have F:=Y<|x.put4 (u0:=H 1) (u1:=H 0) (u2:=H ((i:I)+1)) (u3:=H 0) M.o P.o;have O_:=Y<|LZ.put s.o ⟨1,0,((i:I)+1),0⟩;refine YU (ki b ((k:I)-1) _ (Y F.1) O O) λw5⟨c,f⟩=>?_;have K:=kr b (n:=((k:I)-1)) O;obtain⟨r,s1,g⟩:∃r p,iw b ((k:I)-1)=(r,p):=⟨_,_,R⟩;rw[g]at c a K |-;dsimp only at c a K |-;have t:=Y<|F.next f c;have l:Q (LZ w5 C _):=Y (Bx.grown O_.o f λe=>T.o<|by injection e with e;exact e.symm);clear c f g;obtain⟨bc,bd,be,bf⟩:=LZ.cells l.o;have bg:=Bx.thaw l.o;clear t0 t1 t2 t3 tz F O_;have br:(1+r != 0)=So:=SB
     have ab:(1+r:I)≠0:=O;by_cases z:1+r=(i:I)+1
     .have a2:(1+r != (i:I)+1)=Sn:=by simpa using z
      rw[yc,aM λhh=>hh.2 z]at a;clear z ab;go_wp2;go_meet;rw[a.o];exact⟨t,l⟩
     have a2:(1+r != (i:I)+1)=So:=by simpa using z
     rw[yc,aU ⟨ab,z⟩]at a;clear z ab;go_wp2_with fail
     refine YU (ki s1 4 _ (Y t.1) O O) λw6⟨c,f⟩=>?_;have L:=kr s1 (n:=4) O;obtain⟨r4,s4,g⟩:∃r p,iw s1 4=(r,p):=⟨_,_,R⟩;rw[g]at c a L |-;dsimp only at c a L |-;have Q_:=Y<|t.next f c;have q:Q (LZ w6 C _):=Y (Bx.grown l.o f λe=>T.o<|by injection e with e;exact e.symm);clear c f g;obtain⟨bh,bi,bk,bl⟩:=LZ.cells q.o;have bm:=Bx.thaw q.o;by_cases h:r4=0
     .have Y_:(r4 != 0)=Sn:=by simpa using h
      rw[aU h]at a;clear h;go_wp2;go_meet;rw[a.o];exact⟨Q_,q⟩
     have Y_:(r4 != 0)=So:=by simpa using h
     rw[aM h]at a;clear h;go_wp2_with fail
     have R_:=Y<|Q_.put4 (u0:=H 2) (u1:=H 0) (u2:=H ((i:I)+1)) (u3:=H (1+r)) M.o P.o;have V_:=Y<|LZ.put q.o ⟨2,0,((i:I)+1),(1+r)⟩;refine YU (ki s4 2 _ (Y R_.1) O O) λw8⟨c,f⟩=>?_;have ap:=kr s4 (n:=2) O;obtain⟨B,s5,g⟩:∃r p,iw s4 2=(r,p):=⟨_,_,R⟩;rw[g]at c a ap |-;dsimp only at c a ap |-;have ad:=Y<|R_.next f c;have P_:Q (LZ w8 C _):=Y (Bx.grown V_.o f λe=>T.o<|by injection e with e;exact e.symm);clear c f g;obtain⟨bv,bx,b0,b1⟩:=LZ.cells P_.o;have b3:=Bx.thaw P_.o;by_cases A_:B=0
     .have a3:(B==0)=So:=by simpa using A_
      rw[aU A_]at a;clear A_;have W_:=Y<|ad.put4 (u0:=H 2) (u1:=H 0) (u2:=H (1+r)) (u3:=H ((i:I)+1)) M.o P.o;have a0:=Y<|LZ.put P_.o ⟨2,0,(1+r),((i:I)+1)⟩;go_wp2;go_meet;rw[a.o];exact⟨W_,a0⟩
     have a3:(B==0)=Sn:=by simpa using A_
     rw[aM A_]at a;clear A_;go_wp2;go_meet;rw[a.o];exact⟨ad,P_⟩
    have X_:¬(2:I)<k:=O;rw[show oL b k=(0,b) by unfold oL;rw[aM V]]at a;rw[yc,aM λhh=>hh.1 R]at a;have F:=Y<|x.put4 (u0:=H 1) (u1:=H 0) (u2:=H ((i:I)+1)) (u3:=H 0) M.o P.o;have O_:=Y<|LZ.put s.o ⟨1,0,((i:I)+1),0⟩;go_wp2;go_meet;rw[a.o];exact⟨F,O_⟩
   rw[aM h1]at a;have a1:¬(i:I)+1<k:=O;by_cases V:1<k
   .have X_:(1:I)<k:=O;rw[yJ,aU V]at a;go_wp2_with fail
    refine YU (ki b 8 _ (Y x.1) O O) λw5⟨c,f⟩=>?_;have K:=kr b (n:=8) O;obtain⟨r,s1,g⟩:∃r p,iw b 8=(r,p):=⟨_,_,R⟩;rw[g]at c a K |-;dsimp only at c a K |-;have t:=Y<|x.next f c;have l:Q (LZ w5 C _):=Y (Bx.grown s.o f λe=>T.o<|by injection e with e;exact e.symm);clear c f g;obtain⟨bc,bd,be,bf⟩:=LZ.cells l.o;have bg:=Bx.thaw l.o;by_cases h:r=0
    .have Y_:(r==0)=So:=by simpa using h
     rw[aU h]at a;clear h;go_wp2_with fail
     refine YU (ki s1 ((k:I)-1) _ (Y t.1) O O) λw6⟨c,f⟩=>?_;have L:=kr s1 (n:=((k:I)-1)) O;obtain⟨B,s2,g⟩:∃r p,iw s1 ((k:I)-1)=(r,p):=⟨_,_,R⟩;rw[g]at c a L |-;dsimp only at c a L |-;have Q_:=Y<|t.next f c;have q:Q (LZ w6 C _):=Y (Bx.grown l.o f λe=>T.o<|by injection e with e;exact e.symm);clear c f g;obtain⟨bh,bi,bk,bl⟩:=LZ.cells q.o;have bm:=Bx.thaw q.o;have R_:=Y<|Q_.put4 (u0:=H 1) (u1:=H 0) (u2:=H (1+B)) (u3:=H 0) M.o P.o;have V_:=Y<|LZ.put q.o ⟨1,0,(1+B),0⟩;go_wp2;go_meet;rw[a.o];exact⟨R_,V_⟩
    have Y_:(r==0)=Sn:=by simpa using h
    rw[aM h]at a;clear h;go_wp2;go_meet;rw[a.o];exact⟨t,l⟩
   have X_:¬(1:I)<k:=O;rw[yJ,aM V]at a;go_wp2;go_meet;rw[a.o];exact⟨x,s⟩
  obtain⟨y,ac⟩:=hcut;clear x s;generalize qK b k i=tk at*;obtain⟨M_,s2⟩:=tk;dsimp only at y ac N_;obtain⟨t0,t1,t2,t3⟩:=LZ.cells ac.o;have f1:=Bx.c y.5 1;have fz:=Bx.thaw y.5;have bt:=y.7;go_wp2_with (at_builtin;refine YC (n:=J j) (xs:=jx LQ LQ<|j.map kj) BQ y.6 ?_ (oN D_.o))
  intro v8 w8 aa am a8 a5;obtain⟨ar,W⟩:=y.push _ am aa;have W_:=Y ar;obtain⟨af,cap,rfl,S_,Z_⟩:=Xm aa O;clear S_ Z_ a8 a5 aa am ar;have k0:=Bx.c W 0;have k1:=Bx.c W 1;have kz:=Bx.thaw W;have bn:=Y W;clear W;go_wp2;exact⟨⟨o,i+1,s2,j++[M_],_,O,gM,Y (by rw[aQ,D_.o];rfl),N_,W_⟩,SA⟩
 |zero=>
  have N_:Q ((j,b)=oA k k 0 u []):=U_;have a7:¬(i:I)<k:=O;have f0:=Bx.c d.5 0;have f1:=Bx.c d.5 1;have r0:=Bx.c d.4 0;have r1:=Bx.c d.4 1;have rz:=Bx.thaw d.4;obtain⟨af,cap,rfl,S_,Z_⟩:=Xm d.6<|oN D_.o;clear Z_;have HL:=Y S_.1;clear S_;have au:=Y D_.o;generalize ao:J j=al at*;have az:=Y ao;clear ao;go_wp2;rw[<-N_.o];refine YL (v:=Sa #[H 0,Hl af al cap]) ⟨_,R,?_,?_,?_⟩;·exact(d.1.put d.3).put d.3
  .exact Rv (Rv d.2 aA) aA
  have a4:k=al:=oN au.o;rw[a4];have aq:=d.6;rw[az.o]at aq;exact ke (a:=(A (Z w.1) 1)) (ke (a:=(A (Z w.1) 0)) aq (mH vY) _) (mH vY) _
structure xz(w W:Ub)(sb B:N)(s:cB):Prop where
 d:i9 W sb B s
 g:w.grownBy W (S sb)
 z:Bx W (Z w.1) #[Si S6 0,Si S6 0,Si S6 0,Si S6 0,Si S6 0] 64
theorem xz.call{s a:cB}(h:xz w v n m s)(b:m<=Z w.1)(d:i9 u n m a)(g:v.grownBy u (S n)):xz w u n m a :=
 ⟨d,R9 h.g g,h.z.grown g λe=>by have:=h.d.3;injection e;omega⟩
theorem xz.fin{s:cB}(h:xz w v n m s)(a:m<=Z w.1)(c d e f g:Uj):i9 (Se (Se (Se (Se (Se v ⟨Z w.1,0,U⟩ c) ⟨Z w.1,1,U⟩ d) ⟨Z w.1,2,U⟩ e) ⟨Z w.1,3,U⟩ f) ⟨Z w.1,4,U⟩ g) n m s/\w.grownBy (Se (Se (Se (Se (Se v ⟨Z w.1,0,U⟩ c) ⟨Z w.1,1,U⟩ d) ⟨Z w.1,2,U⟩ e) ⟨Z w.1,3,U⟩ f) ⟨Z w.1,4,U⟩ g) (S n) :=
 have b:=@aA (Z w.1)
 ⟨((((h.d.put a).put a).put a).put a).put a,Rv (Rv (Rv (Rv (Rv h.g b) b) b) b) b⟩
theorem R0(s:cB)(y:Q (i9 w n m s))(P:Q (Xf w B g p l))(M:Q (k=J l))(T:k<=5000)(v:n<B)(z:g<=Z w.1):
 Sk prog 69 #[Hn n,X p k c,H t,Sb r] w λo K=>o=Rt (RJ s l t r).1.agg/\i9 K n m (RJ s l t r).2/\w.grownBy K (S n):=by
 have a:Q (RJ s l t r=wQ (iw s 14).1 (Mi (iw s 14).2 l r).1 (Mi (Mi (iw s 14).2 l r).2 l r).1 k t (Mi (Mi (iw s 14).2 l r).2 l r).2):=Y (by unfold RJ;rw[<-M.o]);have j:Q (m<=Z w.1):=Y y.4;have u:Q (∀W,w.grownBy W (S n)->Xf W B g p l/\g<=Z W.1):=Y λW F=>⟨P.grown F v z,aJ z F.4⟩
 go_in
 go_wp2_with fail
 have C:Q (xz w (D w (Sc #[H 0,H 0,H 0,H 0,H 0] 64)) n m s):=Y ⟨y.box _,bW _ _ _,Bx.new _ _ _⟩;refine(ki s 14 _ (Y C.d) O O).mono ?_;rintro o P_⟨rfl,d,e⟩;have V:=kr s (n:=14) O;replace C:=Y<|C.call j.o d e;obtain⟨b,s1,f⟩:∃h i,iw s 14=(h,i):=⟨_,_,R⟩;rw[f]at C a V |-;dsimp only at C a V |-;clear d e f P y;go_wp2_with fail
 refine(zp s1 (Y C.d) (Y (u.o _ C.g).1) M T v (u.o _ C.g).2).mono ?_;rintro o Q_⟨rfl,d,e⟩;replace C:=Y<|C.call j.o d e;obtain⟨R_,s2,f⟩:∃h i,Mi s1 l r=(h,i):=⟨_,_,R⟩;rw[f]at C a |-;dsimp only at C a |-;clear d e f;go_wp2_with fail
 refine(zp s2 (Y C.d) (Y (u.o _ C.g).1) M T v (u.o _ C.g).2).mono ?_;rintro o L⟨rfl,d,e⟩;replace C:=Y<|C.call j.o d e;obtain⟨S_,s3,f⟩:∃h i,Mi s2 l r=(h,i):=⟨_,_,R⟩;rw[f]at C a |-;dsimp only at C a |-;clear d e f v z;have c0:=Bx.c C.z 0;have c1:=Bx.c C.z 1;have c2:=Bx.c C.z 2;have c3:=Bx.c C.z 3;have c4:=Bx.c C.z 4;have C_:=Bx.thaw C.z;by_cases E_:b<2\/k=0
 focus
  rw[wQ,aU E_]at a;rcases(by omega:b<2\/¬b<2/\k=0)with N_|⟨N_,D_⟩;rotate_left;subst D_
  all_goals (
   go_wp2_with fail
   refine(X4 s3<|Y C.d).mono ?_;rintro o M_⟨rfl,d,e⟩;replace C:=Y<|C.call j.o d e;obtain⟨q,s4,f⟩:∃h i,sY s3=(h,i):=⟨_,_,R⟩;rw[f]at C a |-;dsimp only at C a |-)
 rotate_left 2
 focus
  rw[wQ,aM E_]at a;have D_:((k:I)==0)=Sn:=SB
  rcases(by omega:b=2\/b=7\/b=3\/b=4\/b=5\/b=6\/b=8\/b=9\/b=10\/b=11\/b=12\/b=13)with rfl|rfl|rfl|rfl|rfl|rfl|rfl|rfl|rfl|rfl|rfl|rfl
  all_goals simp only[Int.reduceEq,reduceIte,lL,or_true,or_self]at a
  focus
   go_wp2_with fail
   refine(ki s3 8 L (Y C.d) O O).mono ?_;rintro o M_⟨rfl,d,e⟩;replace C:=Y<|C.call j.o d e;obtain⟨q,s4,f⟩:∃h i,iw s3 8=(h,i):=⟨_,_,R⟩;rw[f]at C a |-;dsimp only at C a |-
  rotate_left
  focus
   go_wp2_with fail
   refine(ki s3 2 L (Y C.d) O O).mono ?_;rintro o M_⟨rfl,d,e⟩;replace C:=Y<|C.call j.o d e;obtain⟨q,s4,f⟩:∃h i,iw s3 2=(h,i):=⟨_,_,R⟩;rw[f]at C a |-;dsimp only at C a |-;by_cases x:q=0;rotate_left;have O_:(q==0)=Sn:=by simpa using x
   rw[aM x]at a;rotate_left;have O_:(q==0)=So:=by simpa using x
   rw[aU x]at a
 all_goals (
  clear c0 c1 c2 c3 c4 C_;have c0:=Bx.c C.z 0;have c1:=Bx.c C.z 1;have c2:=Bx.c C.z 2;have c3:=Bx.c C.z 3;have c4:=Bx.c C.z 4;have C_:=Bx.thaw C.z;go_wp2;rw[a.o];refine cC (v:=Yg.agg _) (by simp[Yg.agg,JC,results69,go_sem,c0,c1,c2,c3,c4]) R ⟨R,?_⟩;exact C.fin j.o _ _ _ _ _)
end Go.Proofs.YtcncjgijikoapaaGreatDoor
