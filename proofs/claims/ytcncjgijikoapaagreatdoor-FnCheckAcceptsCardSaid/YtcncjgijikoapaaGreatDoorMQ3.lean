import Derived.Test.YtcncjgijikoapaaGreatDoorMB1
import Derived.Test.YtcncjgijikoapaaGreatDoorML3
namespace Go.Proofs.YtcncjgijikoapaaGreatDoor
set_option maxHeartbeats 4000000
set_option maxRecDepth 100000
open _root_ renaming Array.size->Z,List.length->J,Nat->N,Int->I,rfl->R,Option.some->S,Option.none->U,Bool.true->So,Bool.false->Sn,absurd->Sz,List.range->Rg
open Go renaming World.cell?->E,World.alloc->D,World.setCell->Se,IntKind.i64->S6,Obj.cells->Sc,RowKit.Below->Sw,Calls->Sk,RowKit.intOf->JB
open Value renaming slice->X,int->Si,bool->Sb,agg->Sa
open Go.RowKit Go.Proofs.Tryz
variable{n m k B:N}{w:Ub}{p:Uy}{x:Wi}
theorem Qe:(prog.info? 106).map (λi=>(i.8,i.3,i.4))=S (S<|Sa #[Hq],1,24):=vZ
theorem oX(a:Jy n x)(b):J (Tu x b)<=4000:=by
 unfold Tu;cases h:x[b]? with
 |none=>exact aN
 |some c=>simp only[Z2,bK];exact(a.10 c<|eN h).1
theorem qm(c_)(ha:Q (Xp w k B p x))(M:Q (m=J x))(hB:B<=Z w.1)(g:Q (Jy n x)):
 Sk prog 46 #[Sa #[H n,X p m c_]] w λl w'=>Gw w w' m n x l:=by
 have hn:m<=1000:=oP M.o g.1.2;have hV:=g.2;have a9:Sw (Z w.1) w (D w<|Sc #[Si S6 (n:I),X p m c_] 25):=Xb Rf _;have b5:=Y<|uf n p m c_ x k B _ (Y<|ha.keep (a9.mono hB)) M (oN a9.4) g;have cq:E (D w<|Sc #[Si S6 (n:I),X p m c_] 25) ⟨Z w.1,0,U⟩=S (Si S6 (n:I)):=by simp[go_sem]
 go_in
 go_wp2_with fail
 refine b5.mono ?_;rintro l N_⟨af,cf,rfl,bn,cn⟩;have dn:=Y<|Xg a9 bn;have g0:=oB bn cq sP;have bc:=Y cn;have eq:Z w.1<Z N_.1:=aI N_ _ g0;clear bn a9 cq b5 cn;obtain⟨K,of,ds⟩:∃K of,af=S ⟨K,of,U⟩:=by obtain⟨b,es,_,l,_⟩:=bc 0<|oP M.o g.1.1;exact⟨b,es,l⟩
 subst ds;have aj:=Y bc.at_;clear bc;go_wp2_with fail
 obtain⟨o,hm⟩:∃o:Wk,o=λs=>J (Tu x s)+1:=⟨_,R⟩;have bi:Q (∀s,o s=J (Tu x s)+1):=Y (λs=>by rw[hm]);have eu:Q (∀s,o s<=4001):=Y (λs=>by rw[hm];have:=oX g s;show J (Tu x s)+1<=4001;omega);clear hm;have ch:=Y<|PC.start N_ o;generalize D N_ _=w2 at*
 go_loopw [4,5] (λc6 i wr=>∃(b:N)(c:Wk),b<=m/\i=Si S6 b/\Q (PC N_ wr c6 b o c)) λ_ i _=>m-(JB i).toNat
 .exact⟨0,λ_=>0,aN,R,ch⟩
 obtain⟨b,c,hb,rfl,r⟩:=hrel;clear ch;by_cases Q_:b<m
 .have ab:b<J x:=oN M.o;obtain⟨a0,n0,a1,n1,a2,n2,a3,n3,a4,a,a5,n5,c0,c1,c2,c3,c4,c5,dw,_,_,_,_,x4,_,_,_,_,eg,_,P_⟩:=YQ.row g aj r.1 ab;have dj:Q (a+1=o b):=Y (by rw[bi.o,P_.d.1]);have ba:=J9 (P:=prog) 58 61 (Sa #[X U 0 0]) 1 24 underlying58 Qd (a+1) O O;rw[show((a+1:N):I)=(a:I)+1 by omega]at ba;have el:S6.wrap ((a:I)+1)=(a:I)+1:=by rw[dF];omega
  have HO:=Y r.2;have aa:K<Z wr.1:=aI wr _ x4;clear P_;go_wp2_with (at_builtin;refine YC Qe (HO.alloc _) ?_ (hs:=by have:=r.1.4;simp;omega))
  intro v8 T_ bq bo _ du;rw[dj.o]at bq bo;have dk:=Y<|r.push bo bq;clear bq bo du;go_wp2;exact⟨⟨b+1,_,O,gM,dk⟩,SA⟩
 have dz:m=b:=O;subst dz;have ef:0<m:=oP M.o g.1.1
 obtain⟨Z_,cO,rfl,_,_⟩:=Xm r.2 ef;have cb:Q (∀s,s<m->E wr ⟨Z_,s,U⟩=S (X (S ⟨c s,0,U⟩) (o s) (o s))):=Y (λs d=>by exact Jj r.2 (j:=s) (by simp[d]))
 have cg:=Y<|r.2.lt Z_ R;have ce:Q (∀s,s<m->Z_≠c s):=Y (λs d l=>by
  obtain⟨cc,C,_⟩:=(r.3 s d).2;obtain⟨e1,_⟩|⟨g_,cap,cur,e1,_,u,_⟩:=r.2.2;·cases e1
  injection e1 with e1
  injection e1 with e1;injection e1 with e1;subst e1;rw[l,show wr.1[c s]?=_ from C]at u;injection u with u;injection u with _ h3;exact Sz h3 vY)
 have b3:Q (OA wr wr m c o λs i=>UU x 0 s i):=Y ⟨R,R,R,aA,λ_ _ _=>R,λ_ _=>X U 0 0,⟨λs d=>(r.3 s d).2.lt,r.4,λs d=>(r.3 s d).2,λs i _ _=>by rw[De];exact dA,λs i s' j _ _ _ _ _=>bC R⟩⟩;have be:=Y λs d=>(r.3 s d).1;have ad:=Y r.1;have g1:=r.1.4;clear r hb Q_;go_wp2_with fail
 generalize wr=S_ at*;have al:Q (∀wr cj,OA S_ wr m c o cj->Sw (Z N_.1) N_ wr):=Y λwr cj C_=>⟨G C_.1 ad.1,G C_.2 ad.2,G C_.3 ad.3,oN C_.4,λq hq=>G (C_.5 q O λs d=>by have:=be s d;omega) (ad.5 q hq)⟩
 go_loopw [6] (λi wr=>∃v:N,v<=n/\i=Si S6 v/\Q (OA S_ wr m c o λs i=>UU x v s i)) λi _=>n-(JB i).toNat
 .exact⟨0,aN,R,b3⟩
 clear b3;obtain⟨v,gt,rfl,V⟩:=hrel;have k0:=oB (al _ _ V) g0 eq;by_cases ee:v<n
 .have bt:=Y<|BS v cf (Y<|aj.keep (al _ _ V)) M g;go_wp2_with fail
  refine bt.mono ?_;rintro l w4⟨L,rfl,co,ct,F,cx,cw⟩;have b4:=Y ((V.below co).congr λs i _ _=>(E4 x v s i).symm);have U_:=Y cx;have b6:=Y cw;have c9:=Y<|aJ V.4 ct;clear co ct cx cw V bt k0;go_wp2_with fail
  generalize wr=wo at*
  go_loopw [8] (λi wr=>∃b:N,b<=m/\i=Si S6 b/\Q (OA S_ wr m c o<|pQ x v b 0)/\Q (wr.rowIs L 4 m λz=>Sb (F z))) λi _=>m-(JB i).toNat
  .exact⟨0,aN,R,b4,U_⟩
  clear b4 U_;obtain⟨b,hb,rfl,aq,U_⟩:=hrel;by_cases Q_:b<m
  .have ab:b<J x:=oN M.o;have R_:=Y<|al.o _ _ aq;obtain⟨a0,n0,a1,n1,a2,n2,a3,n3,a4,a,a5,n5,c0,c1,c2,c3,c4,c5,dw,_,x1,_,x3,x4,x5,_,gr,_,eg,gs,P_⟩:=YQ.row g aj R_ ab;have O_:=Y P_;have bv:=Y P_.d.1;have ca:Q (o b=a+1):=Y (by rw[bi.o,<-P_.d.1]);have ba:=fM (P:=prog) 159 4 (Sb Sn) 1 underlying159 Q7 R S6 S6 (a+1) O O;rw[show((a+1:N):I)=(a:I)+1 by omega]at ba;have el:S6.wrap ((a:I)+1)=(a:I)+1:=by rw[dF];omega
   have aa:K<Z wr.1:=aI wr _ x4;clear P_
   go_upto_region 16 with fail
   have V_:Q (Ob wr (D wr<|Sc (madeCells #[Sb Sn] (a+1)) 4) L m F (Z wr.1) (a+1) (Oo x b v a)):=Y ⟨Xb Rf _,U_.lt,U_.alloc _,aA,UC (C:=Sb) (dG wr (Sb Sn) (a+1) 4) λz hz=>(Fd hz).symm⟩;generalize ej:D wr (Sc (madeCells #[Sb Sn] (a+1)) 4)=w5 at*;clear ej
   go_cut [11]from 44 to 176 λcc T=>cc=Sb (OP x b v a)/\Q (Ob wr T L m F (Z wr.1) (a+1) (Oo x b v a))
   case first=>
    have b7:=Y<|A8 cf (Y<|aj.keep (Xg R_ V_.1)) M g Q_ (Y V_.3) b6;go_wp2_with fail
    refine b7.mono ?_;rintro l w6⟨s,rfl,cz,cp⟩;have X_:=Y<|V_.below cp;have a7:=Y<|E7 ab cz;rw[<-bv.o]at a7;have y5:=oB X_.1 x5 aa;have da:=Y (YF a5 c5 (v:I) (PA x b) 0 (Z w6.1) w6 (Y<|(O_.u.2.keepS λq _ u=>X_.1.5 q<|oN R_.4).mono aA (oP X_.1.4 R_.4)) (Y O_.u.1) O);clear cp cz V_ b7;cases s with
    |true=>
     go_wp2;go_meet;exact⟨by rw[a7.o,Bool.true_or],X_⟩
    |false=>
     rw[jV]at a7;go_wp2_with fail
     refine YU da λT_ y=>?_;have Y_:=y.symm;subst Y_;rw[<-a7.o];go_wp2;go_meet;exact⟨R,X_⟩
   obtain⟨rfl,f⟩:=hcut;clear V_ x5 ba;have et:=R_;have g2:=R_.4;generalize wr=e at*;go_wp2
   go_loopw [11,12] (λnw i T=>∃h:N,h<=a/\i=Si S6 h/\nw=Sb (OP x b v h)/\Q (Ob e T L m F (Z e.1) (a+1) (Oo x b v h))) λ_ i _=>(JB i).toNat
   .exact⟨a,aA,R,R,f⟩
   clear f;obtain⟨h,hk,rfl,rfl,f⟩:=hrel;cases h with
   |succ j=>
    have hj:j<J (Tu x b):=oN bv.o;have bp:j<J (OW x b):=by rw[FE];exact hj
    have t:=Y<|Dv (xs:=x) (b:=b) (v:=v) hj;have W:=Y<|Do (xs:=x) (b:=b) (v:=v) hj bp;obtain⟨bd,od,ed,f6,cd⟩:=O_.d.2 j hj;obtain⟨br,or,er,gb,ar,cr,cl,cm⟩:=O_.r.2 j bp;have dl:Q (J ((OW x b)[j])<=1048576):=Y<|aJ (DY x b _<|aH bp) vY;subst ed er;generalize (Tu x b)[j]=bm at*;generalize (OW x b)[j]=rj at*;have z4:=oB f.1 x4 aa;have z3:=oB f.1 x3 aa;have zd:=G (XU f.1 O) cd;have zr:=G (XU f.1 O) cl;have bh:=Y λW_ (hW:Sw (Z e.1) e W_)=>YF ar cr (v:I) rj 0 (Z W_.1) W_ (Y<|(cm.keep (λq C u=>hW.5 q C) hW.4).at_) (Y R) dl;have ci:=f.5.cell (i:=j+1) O;have fi:=f.5.frozen<|j+1;have gv:S6.wrap ((j:I)+1-1)=(j:I):=by rw[dF];omega
    have gz:S6.wrap (j:I)=(j:I):=by rw[dF];omega
    have gh:(j:I)<(a:I):=O;have gi:(j:I)<(n3:I):=oN O_.r.1;have gg:(j:I)+1<(a:I)+1:=O;have f7:bd<Z wr.1:=aI wr _ zd;have gd:br<Z wr.1:=aI wr _ zr;have ga:K<Z wr.1:=aI wr _ z4;have ac:K≠Z e.1/\bd≠Z e.1/\br≠Z e.1:=O;have cs:=ac.1;have d0:=ac.2.1;have ea:=ac.2.2;clear cd cl cm ac;have g3:=λq=>G (bH wr ⟨Z e.1,j+1,U⟩ ⟨K,of+b*6+3,U⟩ q (kA cs)) z3;have g4:=λq=>G (bH wr ⟨Z e.1,j+1,U⟩ ⟨K,of+b*6+4,U⟩ q (kA cs)) z4;have g5:=λq=>G (bH wr ⟨Z e.1,j+1,U⟩ ⟨bd,od+j,U⟩ q (kA d0)) zd;have g6:=λq=>G (bH wr ⟨Z e.1,j+1,U⟩ ⟨br,or+j,U⟩ q (kA ea)) zr;generalize OP x b v (j+1)=nw at*;have P:Q (∀(q q':Bool),q=N2 x b (j+1) v->q'=OP x b v j->(Sb q':Uj)=Sb (OP x b v j)/\Ob e (Se wr ⟨Z e.1,j+1,U⟩ (Sb q)) L m F (Z e.1) (a+1) (Oo x b v j)):=Y (λq q' C u=>⟨by rw[u],(f.set (j+1) q).congr λz _=>Dy C z⟩);have bl:=Y λq=>(f.set (j+1) q).1;by_cases hd:bm=(v:I)
    .subst hd;rw[eB R]at t W;cases nw
     all_goals (
      go_wp2_with fail
      refine YU (bh _<|bl So) λT_ y=>?_;subst y;generalize Cg rj (v:I)=hr at*;cases hr with
      |true=>
       go_wp2_with fail
       obtain⟨e1,e2⟩:=P So So (by rw[t.o];rfl) (by rw[W.o];rfl);exact⟨⟨j,O,gM,e1,Y e2⟩,SL⟩
      |false=>
       go_wp2_with fail
       obtain⟨e1,e2⟩:=P So Sn (by rw[t.o];rfl) (by rw[W.o];rfl);exact⟨⟨j,O,gM,e1,Y e2⟩,SL⟩)
    rw[dJ hd]at t W;have ge:(bm==(v:I))=Sn:=by simpa using hd
    have gf:(bm != (v:I))=So:=by simpa using hd
    cases nw with
    |true=>
     go_wp2_with fail
     refine YU (bh _<|bl So) λT_ y=>?_;subst y;generalize Cg rj (v:I)=hr at*;cases hr with
     |true=>
      go_wp2_with fail
      obtain⟨e1,e2⟩:=P So So (by rw[t.o];rfl) (by rw[W.o];rfl);exact⟨⟨j,O,gM,e1,Y e2⟩,SL⟩
     |false=>
      go_wp2_with fail
      obtain⟨e1,e2⟩:=P So So (by rw[t.o];rfl) (by rw[W.o];rfl);exact⟨⟨j,O,gM,e1,Y e2⟩,SL⟩
    |false=>
     go_wp2_with fail
     refine YU (bh _<|bl Sn) λT_ y=>?_;subst y;generalize Cg rj (v:I)=hr at*;cases hr with
     |true=>
      go_wp2_with fail
      obtain⟨e1,e2⟩:=P Sn So (by rw[t.o];rfl) (by rw[W.o];rfl);exact⟨⟨j,O,gM,e1,Y e2⟩,SL⟩
     |false=>
      go_wp2_with fail
      obtain⟨e1,e2⟩:=P Sn Sn (by rw[t.o];rfl) (by rw[W.o];rfl);exact⟨⟨j,O,gM,e1,Y e2⟩,SL⟩
   |zero=>
    clear x3 x4
    go_upto_region 22 with fail
    have b0:=Y λW_ (hW:Sw (Z e.1) e W_)=>YF a1 c1 (v:I) (Of x b) 0 (Z W_.1) W_ (Y<|(O_.p.2.keepS λq _ u=>hW.5 q O).mono aA (oN hW.4)) (Y O_.p.1) O;have a6:Q (N2 x b 0 v=(F b||Cg (Of x b) (v:I))):=Y (by rw[C6,qH];congr 1;rw[eQ,ET ab,b6.o b Q_])
    go_cut []from 44 to 176 λT=>Q<|Ob e T L m F (Z e.1) (a+1) λz=>N2 x b z v
    case first=>
     have kl:=f.3.cell Q_;have ci:=f.5.cell (i:=0) O;have fi:=f.5.frozen 0;have z1:=oB f.1 x1 aa;have P:=Y λq C=>(f.set 0 q).congr λz _=>Em C z;have bb:=Y<|b0.o _ f.1;generalize Cg (Of x b) (v:I)=ph at*;generalize F b=lb at*;cases lb with
     |false=>
      go_wp2_with fail
      refine YU bb λT_ y=>?_;have Y_:=y.symm;subst Y_;go_wp2;go_meet;exact Y<|P.o _ (by rw[a6.o];rfl)
     |true=>
      go_wp2_with fail
      refine YU bb λT_ y=>?_;have Y_:=y.symm;subst Y_;cases ph with
      |false=>
       go_wp2;go_meet;exact Y<|P.o _ (by rw[a6.o];rfl)
      |true=>
       go_wp2_with fail
       refine YU bb λw9 ek=>?_;have e9:=ek.symm;subst e9;go_wp2;go_meet;exact Y<|P.o _ (by rw[a6.o];rfl)
    have a8:=hcut;have b8:=Y<|aq.below a8.1;have bx:=Y a8.3;have b1:=Y a8.5;have ac:=a8.5.lt;clear hcut f b0 a6 x1;have ep:=aq.4;go_wp2_with fail
    generalize wr=wp at*
    go_loopw [13] (λi T=>∃h:N,h<=a+1/\i=Si S6 h/\Q (OA S_ T m c o<|pQ x v b h)/\Q (T.rowIs L 4 m λz=>Sb (F z))/\Q (T.rowIs (Z e.1) 4 (a+1) λz=>Sb (N2 x b z v))) λi _=>a+1-(JB i).toNat
    .exact⟨0,aN,R,b8,bx,b1⟩
    clear b8 bx b1;obtain⟨h,hk,rfl,az,ao,ap⟩:=hrel;by_cases cv:h<a+1
    .have ck:=ap.cell cv;have gp:(h:I)<=(a:I):=O;have gq:(h:I)<(a:I)+1:=O;cases hps:N2 x b h v with
     |false=>
      rw[hps]at ck;have t:=Y hps;clear hps;go_wp2;exact⟨⟨h+1,O,gM,Y (az.congr λs i _ _=>Gh t s i),ao,ap⟩,SA⟩
     |true=>
      rw[hps]at ck;have t:=Y hps;clear hps;go_wp2_with fail
      refine F4 n a L (Z e.1) x F c o S_ _ _ _ _ _ _ _ _ _ _ _ _ _ _ _ _ _ _ _ _ _ _ _ _ _ _ _ _ _ _ _ _ _ _ _ _ _ _ _ _ _ _ _ _ _ _ _ _ _ _ _ _ _ _ _ _ _ _ _ _ _ _ _ _ _ _ _ _ _ _ _ _ _ _ _ _ _ _ _ _ _ _ _ _ _ _ _ _ _ _ _ _ _ _ _ _ _ _ _ _ _ _ _ _ _ _ _ _ _ _ _ _ _ _ _ _ _ _ _ _ _ _ _ _ _ _ _ _ _ _ _ (Y λ_ _ _ _ _ C_=>C_) ee hV Q_ cv ca az ao ap t (Y<|cb.o b Q_) ce cg.2 c9 (Y ep) (Y ?_);intro ey ez e0 e6 e7 fa fb fc fe fj fl fn fq fr fs fx fz f0 f4 f5 w9 c7 c8 db;clear az ao ap ck;go_wp2;exact⟨⟨h+1,O,gM,c7,c8,db⟩,SA⟩
    have ec:h=a+1:=O;subst ec;have di:=Y (az.congr λs i _ hi=>Es (m:=a+1) λl=>by subst l;rw[<-ca.o];exact hi);go_wp2;exact⟨⟨b+1,O,gM,di,ao⟩,SA⟩
  have dc:Q (OA S_ wr m c o λs i=>UU x (v+1) s i):=Y (aq.congr λs i d _=>by rw[show b=m by omega];exact FC d);go_wp2;exact⟨⟨v+1,O,gM,dc⟩,SA⟩
 have ei:v=n:=O
 subst ei;have df:Q (∀s,s<m->E wr ⟨Z_,s,U⟩=S (X (S ⟨c s,0,U⟩) (J (Tu x s)+1) (J (Tu x s)+1))/\Z w.1<=c s/\XR wr (Z w.1) (Z wr.1) (S ⟨c s,0,U⟩) ((Rg<|J (Tu x s)+1).map (UU x v s))):=Y (λs d=>by obtain⟨ev,hU⟩:=V.6;have C:=V.cell (λs d=>ce s d) (cb s d);have u:=hU.ints d (L:=Z w.1) (oN<|be s d);rw[bi.o]at C u;exact⟨C,oN<|be s d,u⟩)
 have dd:=Y<|al.o _ _ V;go_wp2;go_ret;exact⟨Z_,cO,c,R,dn.trans<|dd.mono O,oN cg.1,df⟩
end Go.Proofs.YtcncjgijikoapaaGreatDoor
