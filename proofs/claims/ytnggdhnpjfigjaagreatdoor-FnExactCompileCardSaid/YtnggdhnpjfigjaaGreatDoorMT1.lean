import Derived.Test.YtnggdhnpjfigjaaGreatDoorML3a
import Derived.Test.YtnggdhnpjfigjaaGreatDoorAL1
import Derived.Test.YtnggdhnpjfigjaaGreatDoorQD
import Derived.Test.YtnggdhnpjfigjaaGreatDoorPK
namespace Go.Proofs.YtnggdhnpjfigjaaGreatDoor
set_option maxHeartbeats 4000000
set_option maxRecDepth 100000
open _root_ renaming Array.size->Z,List.length->J,Nat->N,Int->I,rfl->R,Option.some->S,Bool.true->So,Bool.false->Sn,absurd->Sz,Option.none->U
open Go renaming World.cell?->E,World.alloc->D,World.ownsRow->Sx,IntKind.i64->S6,Ending.returned->Rt,RowKit.Below->Sw,Calls->Sk,World.setCell->Se,Obj.cells->Sc
open Value renaming slice->X,bool->Sb,agg->Sa,int->Si,tuple->St,string->Sg
open Go.RowKit Go.Proofs.Tryz Go.Shelf
variable{r:Bool}{t T:I}{n m k B g i j c:N}{w v u:Ub}{a A_:Uj}{p P:Uy}{h:Vu}{l L:Wc}{x:Wi}{y:Wo}
theorem TH.start1(h:Sx w n 2 1 a (J l) (l.map<|Value.int S6))(b:∀g,a.ownBlock=S g->g=n):TH w n w a l:=⟨R,R,R,aA,λ_ _ _=>R,h,λg e=>bC<|b g e⟩
theorem TH.low{wr:Ub}(h:TH v n wr a l)(k:Sw n w v)(b:n<=Z v.1):Sw n w wr :=
 ⟨G h.1 k.1,G h.2 k.2,G h.3 k.3,aJ k.4 h.4,λq hq=>G (h.5 q O O) (k.5 q hq)⟩
theorem CA(h:Sx w n m k (Hl B g c) i y):Sx w B m k (Hl B g c) i y:=by
 obtain⟨f,h|⟨d,a,b,e1,j,e⟩⟩:=h;·exact Sz h.1 sP
 have e2:B=d:=by
  injection e1 with e1;injection e1 with e1;injection e1
 subst e2;exact⟨f,aZ ⟨B,a,b,e1,aA,e⟩⟩
theorem TH.rebase{wr:Ub}(h:TH w n wr (Hl m k c) l)(b:Sw (Z wr.1) wr v):TH v m v (Hl m k c) l :=
 TH.start1 (CA<|Zl h.6 λq e=>b.5 q (h.6.lt q e).2) (λq e=>by
  have a:m=q:=by simpa [Value.ownBlock]using e
  exact a.symm)
theorem TH.join{wr:Ub}(h:TH w n wr a l)(k:Sw (Z wr.1) wr v)(c:a.ownBlock=S m)(b:TH v m u A_ L):TH w n u A_ L:=by
 have f:=h.4;have g:=k.4;have d:=h.6.lt m c;refine⟨G b.1<|G k.1 h.1,G b.2<|G k.2 h.2,G b.3<|G k.3 h.3,oN b.4,λq q1 q2=>G (b.5 q O λe=>?_) (G (k.5 q O) (h.5 q q1 q2)),Zk b.6 d.1,λq e=>?_⟩
 .rcases h.7 m c with e2|e2;·exact q2<|G e e2
  omega
 obtain e2|e2:=b.7 q e;·rw[e2];exact h.7 m c
 exact aZ O
def QG(a b:Ub):Prop:=a=b
def Gs(w:Ub)(V:N)(b:Wi)(e:Ending)(a:Ub):Prop:=∃s:Bool,e=Rt (Sb s)/\(s=So↔∀v,v<V->¬N4 b v)/\Sw (Z w.1) w a
theorem BN(c:N)(ha:Q (Xp w k B p x))(L:Q (m=J x))(hB:B<=Z w.1)(i:Q (Jy n x)):
 Sk prog 87 #[Sa #[H n,X p m c]] w λf w'=>Gs w n x f w':=by
 let⟨m0,e7,e8,e9,fa⟩:=Xq RH;have hn:m<=1000:=oP L.o i.1.2;have ge:0<m:=oP L.o i.1.1;have hV:=i.2;have bm:Sw (Z w.1) w (D w<|.cells #[H n,X p m c] 40):=Xb Rf _;have cx:E (D w<|.cells #[H n,X p m c] 40) (A (Z w.1) 0)=S (H n):=sP;have b0:Z w.1<Z (D w<|.cells #[H n,X p m c] 40).1:=sP;have ch:=Y<|uf n p m c x k B (D w<|.cells #[H n,X p m c] 40) (Y<|ha.keep (bm.mono hB)) L O i
 go_in
 go_wp2_with fail
 refine ch.mono ?_;rintro f w1⟨af,cf,rfl,a6,hF⟩;have dw:=Y hF.at_;have b1:=Y<|Xg bm a6;have g0:=oB a6 cx b0;have fz:=aX b0 a6.4;have dz:=Y g0;clear hF a6 bm cx b0 ch g0;go_wp2
 go_loopw [4] (λM wr=>∃v:N,v<=n/\M=H v/\Q (Sw (Z w1.1) w1 wr)/\Q (∀d,d < v->¬N4 x d)) λM _=>n-(intOf M).toNat
 case atStart=>exact⟨0,aN,R,Y<|Rf,Y λd h=>Sz h O⟩
 obtain⟨v,hv,rfl,W_,co⟩:=hrel;have k0:=oB W_ dz fz;have dk:=W_.4;by_cases ez:v<n
 .go_wp2_with fail
  have bn:Sw (Z wr.1) wr (D wr<|.cells #[H 0] 2):=Xb Rf _;have b8:Q (TH (D wr<|.cells #[H 0] 2) (Z wr.1) (D wr<|.cells #[H 0] 2) (Hl (Z wr.1) 1 1) (Xi [0])):=Y (TH.start1 (by
   have h:=eI (base:=Z wr.1) (e:=2) (size:=1) wr #[H 0] 1 aA SD R;exact h) (λet f=>by
   have e':Z wr.1=et:=by simpa [Value.ownBlock]using f
   exact e'.symm))
  have dn:=Y bn;have gl:Z wr.1<Z (D wr<|.cells #[H 0] 2).1:=sP;clear bn k0;generalize D wr _=wt at*;generalize wr=wo at*
  go_loopw [5,6] (λal M wr=>∃(q:N)(F:Wa),q<=J F/\M=H q/\Q (OI x v F q)/\Q (TH wt (Z wo.1) wr al<|Xi F)) λ_ M _=>m-(intOf M).toNat
  case atStart=>exact⟨0,[0],sP,R,Y Ci,b8⟩
  clear b8;obtain⟨q,F,hq,rfl,y,u⟩:=hrel;have ci:Q (∀f4∈F,f4<m):=Y (by rw[L.o];exact y.lt i.1);have eu:=YS y.1 ci;let⟨aF,cF,eF,c6⟩:=Xk u.6;have br:J (Xi F)=J F:=by simp[Xi]
  let⟨o,f5,az,bp,_⟩:=Xm u.6 (by rw[br];exact eJ y.z);rw[br]at eF az;have eo:aF=S (A o 0):=by
   rw[eF]at az;injection az
  subst eo;clear az;subst eF;have ee:=Y c6;have f7:=bp.1;have ga:=bp.2;clear bp;have ck:=Y<|u.low dn O;let⟨lF,ad⟩:∃b,b=J F:=⟨_,R⟩;rw[<-ad]at hq eu;rw[<-ad];rw[<-ad]at u;have cj:=Y ad;clear c6 br ad;by_cases e6:q<lF
  .have T_:q<J F:=by rw[<-cj.o];exact e6
   have fq:q<J (Xi F):=by simp[Xi];exact T_
   let⟨bq,oq,eb,f6,a7⟩:=ee q fq;injection eb with eb;injection eb with ep er;subst ep er;rw[aV]at a7;have eq:(Xi F)[q]=((F[q]:N):I):=by simp[Xi]
   rw[eq]at a7;have fs:=ci _<|aH T_;have C:F[q]<J x:=oN L.o;have T:=Y<|W_.trans (ck.mono dk);obtain⟨bf,of,us,rfl,ev,df,A_⟩:=dw F[q] C;have K:=λj' S_=>oB T (df j' S_) ev
   have b5:=Y (A_.keep (λb' s _=>T.5 b' s) T.4);clear df;let⟨R_,c0,e0,i0⟩:=A_.1;let⟨V,c1,e1,i1⟩:=A_.2;let⟨a2,c2,e2,_⟩:=A_.3;let⟨a3,c3,e3,_⟩:=A_.4;let⟨a4,c4,e4,_⟩:=A_.5;let⟨a5,c5,e5,_⟩:=A_.6;have V_:=K 0 vY;have u1:=K 1 vY;have u2:=K 2 vY;have u3:=K 3 vY;have u4:=K 4 vY;have u5:=K 5 vY;simp only[fW]at V_;rw[e0]at V_;rw[e1]at u1;rw[e2]at u2;rw[e3]at u3;rw[e4]at u4;rw[e5]at u5;have bb:=Y e2;have bc:=Y e3;have bd:=Y e4;have be:=Y e5;have cd:=Y i0;have ce:=Y i1;have bi:=Y<|i.10 x[F[q]] (aH C);have aq:Q (Yo x F[q] v=Cg (x[F[q]].1.map Ph.dst) (v:I)):=Y (by unfold Yo;rw[aC C]);have ap:Q (C7 x F[q] v=NA x[F[q]] (XP x F[q]) (v:I)):=Y (by unfold C7;rw[aC C]);have ar:Q (x[F[q]].3.tg=Xi (X8 x F[q])):=Y (by rw[WM i.1 C,VS C]);have el:Q (∀z∈X8 x F[q],z<m):=Y (by rw[L.o];exact i.1.tg _ C);have bh:Q (J (XP x F[q])<=8000000):=Y (by
    unfold XP;rw[aC C];have s:=V8 i ((F[q]:N):I) x[F[q]].3.tg;have h2:=KJ x[F[q]].3;simp only;omega)
   let⟨t,ht⟩:∃t,t=F[q]:=⟨_,R⟩;let⟨P,hX⟩:∃P,P=x[F[q]]:=⟨_,R⟩;let⟨P_,hE⟩:∃P_,P_=XP x F[q]:=⟨_,R⟩;rw[<-hX,<-hE]at b5 ap;rw[<-hX]at V_ u1 u3 u4 u5 bc bd be cd ce bi aq ar;rw[<-hE]at u2 bb bh;rw[<-ht]at a7 fs V_ u1 u2 u3 u4 u5 aq ap ar el;have Q_:=Y ht;clear K A_ eq ht hX hE e0 e1 e2 e3 e4 e5 i0 i1;let⟨g,a8⟩:∃b,b=J P.3.tg:=⟨_,R⟩;let⟨W,a9⟩:∃b,b=J (P.1.map Ph.dst):=⟨_,R⟩;rw[<-a8]at V_;rw[<-a9]at u1;have gf:g<=2:=by rw[a8];exact KJ _
   have gg:W<=4000:=by rw[a9,bK];exact bi.2
   have cn:=Y a8;have eg:=Y a9;clear a8 a9;have du:=bh;clear bh;generalize fi:J P_=n2 at u2 bb;clear fi;generalize fj:J (Jv P)=n3 at u3 bc;generalize fl:J (Z2 P)=n4 at u4 bd;generalize fn:J (Id P.3)=n5 at u5 be;clear fj fl fn;have I_:Sw (Z wr.1) wr (D wr<|.cells #[X R_ g c0,X V W c1,X a2 n2 c2,X a3 n3 c3,X a4 n4 c4,X a5 n5 c5] 152):=Xb Rf _;have J_:∀q' d,#[X R_ g c0,X V W c1,X a2 n2 c2,X a3 n3 c3,X a4 n4 c4,X a5 n5 c5][q']?=S d->E (D wr<|.cells #[X R_ g c0,X V W c1,X a2 n2 c2,X a3 n3 c3,X a4 n4 c4,X a5 n5 c5] 152) (A (Z wr.1) q')=S d:=λq' d h=>by
    rw[eC];exact h
   have f0:Z wr.1<Z (D wr<|.cells #[X R_ g c0,X V W c1,X a2 n2 c2,X a3 n3 c3,X a4 n4 c4,X a5 n5 c5] 152).1:=sP;go_wp2_with fail
   clear V_ u1 u2 u3 u4 u5 a7;generalize D wr _=O_ at*;have x0:Cl O_ (Z wr.1) 0 (X R_ g c0):=J_ 0 _ R;have x1:Cl O_ (Z wr.1) 1 (X V W c1):=J_ 1 _ R;have x2:Cl O_ (Z wr.1) 2 (X a2 n2 c2):=J_ 2 _ R;have x3:Cl O_ (Z wr.1) 3 (X a3 n3 c3):=J_ 3 _ R;have x4:Cl O_ (Z wr.1) 4 (X a4 n4 c4):=J_ 4 _ R;have x5:Cl O_ (Z wr.1) 5 (X a5 n5 c5):=J_ 5 _ R;have ds:=Y I_;have ca:=Y<|u.below I_;have ed:=Y<|(ce.at_.keep T).keep (I_.mono O);have ec:=Y<|(cd.at_.keep T).keep (I_.mono O);have b6:=Y (b5.keep (λb' s _=>I_.5 b' s) I_.4);have cb:=Y<|YF V c1 (v:I) (P.1.map Ph.dst) 0 (Z w1.1) O_ ed eg O;have b3:=Y<|uv (v:I) b6 (Y bi.1) du (X R_ g c0) (X V W c1) bb bc bd be;clear I_ J_;refine cb.mono ?_;rintro f w3⟨rfl,di⟩;rw[di];clear di cb;cases hph:Cg (P.1.map Ph.dst) (v:I)with
   |true=>
    have l:Q (OI x v F<|q+1):=Y (y.go T_<|bC (by rw[<-Q_.o,aq.o];exact hph));clear hph;go_wp2_with fail
    refine⟨?_,SA⟩
    first
     |exact⟨q+1,F,O,gM,l,ca⟩
     |((repeat apply gP);refine⟨?_,R⟩;exact⟨q+1,F,O,gM,l,ca⟩)
   |false=>
    have cr:Q (Yo x t v=Sn):=Y (by rw[aq.o];exact hph);clear hph;go_wp2_with fail
    refine b3.mono ?_;rintro f w4⟨rfl,ab⟩;have ao:=Y<|Xg ds ab;have y0:=oB ab x0 f0;have ea:=Y<|ec.keep (ab.mono O);have gi:=ab.4;have c9:=Vg (v:=(v:I)) (fin:=Cg (Id P.3) (v:I)||Cg P_ (v:I)) P.2;have gd:NA P P_ (v:I)<=2:=c9;generalize fb:NA P P_ (v:I)=mt at*;have Z_:=Y ap.o;clear fb ap c9 ab x0 x1 x2 x3 x4 x5 b3 b6;have ey:mt=0\/mt=1\/mt=2:=O;obtain rfl|rfl|rfl:=ey
    .have fx:Z wr.1≠o:=O;have E_:=Y<|u.rebase ao;have en:=Y y0;have ek:Q (F[q]?=S t):=Y (by rw[aC T_,Q_.o]);have em:Q (Z w1.1<=o):=Y O;have cp:Q (J (X8 x t)=g):=Y (by rw[cn.o,ar.o];simp[Xi]);have ej:Q ((Hl o lF cF).ownBlock=S o):=Y R;go_wp2_with fail
     clear y0;generalize wr=wp at*
     go_loopw [5,9] (λal aj wr=>∃(b:N)(a:Wa),b<=g/\aj=H b/\Q (OI x v a q)/\Q (a[q]?=S t)/\Q (∀r (h:r<J (X8 x t)),r<b->(X8 x t)[r]∈a)/\Q (TH w4 o wr al<|Xi a)) λ_ aj _=>g-(intOf aj).toNat
     case atStart=>exact⟨0,F,aN,R,y,ek,Y λr _ h=>Sz h O,E_⟩
     clear E_;obtain⟨b,a,hm,rfl,l,aa,ba,j⟩:=hrel;have z0:=j.cell fx en;have bv:=(cV.1 aa).1;have Y_:Q (a[q]=t):=Y (cV.1 aa).2;by_cases c8:b<g
     .have fe:b<J P.3.tg:=by rw[<-cn.o];exact c8
      have fc:b<J (X8 x t):=by rw[cp.o];exact c8
      obtain⟨bt,ot,rfl,⟨_,bn⟩,bo⟩:=ea b fe;have dc:P.3.tg[b]=(((X8 x t)[b]:N):I):=by simp only[ar.o,Xi,cM];rfl
      rw[dc]at bo;have zt:=j.cell (oN em.o) bo;let⟨aG,cG,eG,c7⟩:=Xk j.6;have da:J (Xi a)=J a:=by simp[Xi]
      have ef:=Y (aJ (YS l.1 λz U_=>by have:=l.lt i.1 z U_;have:=L.o;show z<m;omega) hn);let⟨e,bx⟩:∃z,z=(X8 x t)[b]:=⟨_,R⟩;rw[<-bx]at zt;have bl:=Y bx;let⟨l2,ac⟩:∃z,z=J (Xi a):=⟨_,R⟩;rw[<-ac]at eG;subst eG;have gb:l2<=1000:=by rw[ac,da];exact ef
      have cc:=Y<|YF aG cG (e:I) (Xi a) o (Z wr.1) wr (Y c7) (Y ac) O;have cg:=Y ac;clear bo dc c7 da bx ac;go_wp2_with fail
      refine cc.mono ?_;rintro f w5⟨rfl,dj⟩;rw[dj];clear dj cc;cases hh:Cg (Xi a) (e:I)with
      |true=>
       have cl:Q (∀r (h:r<J (X8 x t)),r<b+1->(X8 x t)[r]∈a):=Y (λr hr fr=>by
        by_cases f:r=b
        .subst f;rw[<-bl.o];have s:=XD.1 hh;let⟨z,U_,e2⟩:=aY.1 s;have:z=e:=by have e3:(z:I)=(e:I):=e2;omega
         rw[<-this];exact U_
        exact ba r hr O)
       clear hh;go_wp2_with fail
       refine⟨?_,SA⟩
       first
        |exact⟨b+1,a,O,gM,l,aa,cl,j⟩
        |((repeat apply gP);refine⟨?_,R⟩;exact⟨b+1,a,O,gM,l,aa,cl,j⟩)
      |false=>
       have ei:Q (e∉a):=Y (λh=>by
        have s:Cg (Xi a) (e:I)=So:=XD.2<|aY.2 ⟨e,h,R⟩;rw[hh]at s;cases s)
       have cs:=Y (l.push bv (by rw[Y_.o];exact cr) (by rw[Y_.o];exact Z_) (by rw[Y_.o,bl.o];exact aH fc) ei);have cv:Q ((a++[e])[q]?=S t):=Y (by rw[dL bv];exact aa);have cm:Q (∀r (h:r<J (X8 x t)),r<b+1->(X8 x t)[r]∈a++[e]):=Y (λr hr fr=>by
        by_cases f:r=b
        .subst f;rw[<-bl.o];simp
        exact dD _<|ba r hr O)
       clear hh;go_wp2_with (at_builtin;refine bT _ R _ _ 35 R o 2 m0 (H 0) 1 8 underlying35 e7 e8 e9 fa R vY _ _ _ R (j.6.alloc _) (A (Z wr.1) 0) 1 1 [H e] R R ?c1 ?c2 ?c3 ?c4 ?c5 ?_)
       case c1=>
        intro j' u' S_
        match j',S_ with
        |0,S_=>simp at S_;subst S_;simp[Addr.add]
       case c2=>intro u' dd;simp at dd;subst dd;rfl
       case c3=>have:=cg.o;unfold maxLen;omega
       case c4=>have:=cg.o;omega
       case c5=>have:=j.4;simp;omega
       intro u9 w9 db cz _ cw;have d0:=Y ((j.alloc _).push (x:=(e:I)) cz db (by rw[aO];exact cw));have b7:=Y (by have h:=d0.o;rw[show Xi a++[(e:I)]=Xi (a++[e]) by simp[Xi]]at h;exact h);clear db cz cw z0 zt;go_wp2_with fail
       refine⟨?_,SA⟩
       first
        |exact⟨b+1,a++[e],O,gM,cs,cv,cm,b7⟩
        |((repeat apply gP);refine⟨?_,R⟩;exact⟨b+1,a++[e],O,gM,cs,cv,cm,b7⟩)
     have G_:Q (OI x v a<|q+1):=Y (l.go bv (aZ ⟨by rw[Y_.o,Z_.o];decide,λ_ z U_=>by
      rw[Y_.o]at U_;obtain⟨r,hr,rfl⟩:=bR U_;exact ba r hr<|oN cp.o⟩))
     have HJ:=Y<|u.join ao ej j;go_wp2_with fail
     refine⟨?_,SA⟩
     first
      |exact⟨q+1,a,O,gM,G_,HJ⟩
      |((repeat apply gP);refine⟨?_,R⟩;exact⟨q+1,a,O,gM,G_,HJ⟩)
    .have dl:=Y (y.hit T_ (by rw[<-Q_.o];exact cr) (by rw[<-Q_.o];exact Z_));go_wp2;go_ret;exact⟨Sn,R,⟨λh=>(by cases h),λh=>Sz dl<|h v ez⟩,b1.trans<|(T.trans<|ao.mono (oN T.4)).mono O⟩
    have G_:=Y (y.go T_<|aZ ⟨by rw[<-Q_.o,Z_.o];decide,λh=>by rw[<-Q_.o,Z_.o]at h;cases h⟩);have E_:=Y<|u.below ao;go_wp2_with fail
    generalize wr=wp at*
    go_loopw [5,9] (λal aj wr=>al=Hl o lF cF/\aj=H 0/\Q (QG wr w4)) λ_ _ _=>0
    case atStart=>exact⟨R,R,Y R⟩
    obtain⟨rfl,rfl,ct⟩:=hrel;have es:wr=w4:=ct.o;clear ct;subst es;by_cases h0:0<g
    .go_wp2_with fail
     refine⟨?_,SA⟩
     first
      |exact⟨q+1,F,O,gM,G_,E_⟩
      |((repeat apply gP);refine⟨?_,R⟩;exact⟨q+1,F,O,gM,G_,E_⟩)
    go_wp2_with fail
    refine⟨?_,SA⟩
    first
     |exact⟨q+1,F,O,gM,G_,E_⟩
     |((repeat apply gP);refine⟨?_,R⟩;exact⟨q+1,F,O,gM,G_,E_⟩)
  have cq:Q (∀d,d < v+1->¬N4 x d):=Y (λd gh=>by
   by_cases f:d=v
   .subst f;exact y.none<|oN cj.o
   exact co d O)
  have b4:=Y<|W_.trans (ck.mono dk);go_wp2_with fail
  refine⟨?_,SA⟩
  first
   |exact⟨v+1,O,gM,b4,cq⟩
   |((repeat apply gP);refine⟨?_,R⟩;exact⟨v+1,O,gM,b4,cq⟩)
 have HS:Q (∀d,d < n->¬N4 x d):=Y λd h=>co d O;go_wp2;go_ret;exact⟨So,R,⟨λ_=>HS,λ_=>R⟩,b1.trans<|W_.mono O⟩
theorem KT(v:I)(c:N)(ha:Q (Xp w m k p x))(d:Q (n=J x))(hs:Q (J x+Xx x<=1048576))(K:k<=Z w.1):
 Sk prog 42 #[Sa #[H v,X p n c]] w λj C=>j=Rt (H<|Ft v x)/\Sw (Z w.1) w C:=by
 have e:=Y λW (a:Sw (Z w.1) w W)=>Tr v p n c x m k W (Y<|ha.keep (a.mono K)) d hs (oN a.4);have af:=Y<|WY ⟨v,x⟩;rw[<-af.o]at e;have g:Sw (Z w.1) w (D w<|.cells #[H v,X p n c] 40):=Xb Rf _;have M:E (D w<|.cells #[H v,X p n c] 40) (A (Z w.1) 0)=S (H v):=sP;have P:E (D w<|.cells #[H v,X p n c] 40) (A (Z w.1) 1)=S (X p n c):=sP;have q:Z w.1<Z (D w<|.cells #[H v,X p n c] 40).1:=sP;cases hv:XJ ⟨v,x⟩with
 |false=>
  rw[hv]at e;rw[Uh hv];clear hv
  go_in
  go_wp2_with fail
  refine(e _ g).mono ?_;rintro j B⟨rfl,b⟩;have t:=Y<|Xg g b;clear b e g M P q;go_wp2;go_ret;exact⟨R,t⟩
 |true=>
  rw[hv]at e;have T:=Y hv;have Z_:0<=v:=by
   simp only[XJ,Y6,bY,bD]at hv;omega
  obtain⟨V,rfl⟩:=bX Z_;have f:=Y<|XH hv;have hn:n<=1000:=oP d.o f.1.2;have ar:0<n:=oP d.o f.1.1;generalize aa:Ft (V:I) x=L;have G_:=Y aa;clear hv Z_ aa;have ac:=Y λW (a:Sw (Z w.1) w W)=>qt (V:I) c (-1) (Y<|ha.keep (a.mono K)) d O O (oN a.4) (Y (d.o▸f.1.3));have ad:=Y λW (a:Sw (Z w.1) w W)=>BN c (Y<|ha.keep (a.mono K)) d (oN a.4) f
  go_in
  go_wp2_with fail
  refine(e _ g).mono ?_;rintro j B⟨rfl,b⟩;have t:=Y<|Xg g b;have Q_:=oB b M q;have R_:=oB b P q;have ab:=aX q b.4;clear b g M P q e;go_wp2_with fail
  refine Y7 (λC=>E C (A (Z w.1) 0)=S (H V)/\E C (A (Z w.1) 1)=S (X p n c)) λhHeld=>?_;refine Xn 0 ?_;refine Xn 3 ?_;refine Xn 4 ?_;refine Xn 5 ?_;refine Xs 1 λap hK=>?_;go_simp;refine(ac B.drew t.drew).mono ?_;rintro j w2⟨v2,F,rfl,h,K_,X_,T_⟩;have y:Sw (Z B.1) B w2:=⟨h.1,h.2,h.3,h.4,h.5⟩;rw[show Je F=(Xi F).map (Si S6) by simp[Je,Xi]]at K_;let⟨aF,cF,e2,_⟩:=Xk K_;have U_:J (Xi F)=J F:=by simp[Xi]
  have D_:=Y (uQ f.1 X_ λs=>(T_ s).trans (rf vY));rw[U_]at e2;subst e2;let⟨r,z⟩:∃al,al=J F:=⟨_,R⟩;rw[<-z];have N_:Q (r=n↔Jq x):=Y (by rw[z,d.o];exact D_.2);have aq:r<=n:=by rw[z,d.o];exact D_.1
  have C_:=Y<|Xg t y;have k0:=oB y Q_ ab;have k1:=oB y R_ ab;clear y h K_ X_ T_ U_ z D_ Q_ R_;refine hK _ _ ⟨k0,k1⟩ λhHeld=>?_;clear hK;refine Xn 2 ?_;by_cases o:r=n
  .have M_:=Y<|N_.1 o;have aj:((r:I) != (n:I))=Sn:=by simp[o]
   clear o;refine Xn 6 ?_;refine Yq ?_;clear hHeld;go_wp2_with fail
   refine(ad w2 C_).mono ?_;rintro j w3⟨ao,rfl,Y_,S_⟩;have O_:=Y<|Xg C_ S_;have P_:=Y Y_;clear Y_ S_;cases ao with
   |true=>
    have i:Q (L=0):=Y (G_.o▸uP T M_ (λl=>by
     let⟨s,u⟩:=l;exact P_.1 R s (wH f u) u))
    go_wp2;go_ret;exact⟨by rw[i.o];rfl,O_⟩
   |false=>
    have i:Q (L=11):=Y (G_.o▸qg T M_ (dQ λl=>by
     have:=P_.2 λs _ u=>l ⟨s,u⟩;cases this))
    go_wp2;go_ret;exact⟨by rw[i.o];rfl,O_⟩
  have i:Q (L=10):=Y (G_.o▸t9 T λl=>o<|N_.2 l);have aj:((r:I) != (n:I))=So:=by simp;omega
  clear o;refine Xn 6 ?_;refine Yq ?_;clear hHeld;go_wp2;go_ret;exact⟨by rw[i.o];rfl,C_⟩
structure Nq(w:Ub)(R_:N)(wd:Uj)(V:I)(B0:N)(s:NX)(va:Uy)(vn vc:N):Prop where
 rd:nW w R_ wd V va vn vc s.2.isSome
 st:gw w B0 va vn vc s
 fz:∀o,w.frozen? ⟨R_,o,U⟩=Sn
 lo:R_<B0/\B0<=Z w.1
theorem tc(w:Ub)(o:Obj):(D w o).1[Z w.1]?=S o:=by show(w.1.push o)[Z w.1]?=S o;simp
theorem Qm:(prog.info? 71).map (λi=>(i.8,i.3,i.4))=S (S<|.agg #[Hq,Hq,H 0,H 0,H 0,H 0],6,80):=vZ
theorem Qn:(prog.info? 73).map (λi=>(i.8,i.3,i.4))=S (S<|.agg #[H 0,Hq],2,32):=vZ
theorem nW.keep{w':Ub}(h:nW w n a t p m c r)(k:w'.1[n]?=w.1[n]?):nW w' n a t p m c r:=⟨G (Xc k) h.1,G (Xc k) h.2,G (Xc k) h.3,G (Xc k) h.4⟩
theorem Nq.keep{w':Ub}{s:NX}(h:Nq w n a t m s p k B)(b:Sw (Z w.1) w w'):Nq w' n a t m s p k B:=by
 let⟨f,g⟩:=h.4;have e:=b.4;have q:=b.5 n O;exact⟨h.1.keep q,h.2.keep (λc _ d=>b.5 c d) e,λo=>G (bJ q) (h.3 o),⟨f,O⟩⟩
theorem Kb.low'(d:v.4=w.4)(g:v.2=w.2)(e:v.5=w.5)(f:Z w.1<=Z v.1)(h:∀b,b<n->b≠m->v.1[b]?=w.1[b]?):Kb n m m w v:=⟨d,g,e,f,λb a c _=>h b a c⟩
theorem LV(V:I)(na:Uy)(nn nc:N)(h:Q (Nq w n a t m ⟨x,U⟩ p k B))(a2:k<=100000):
 Sk prog 191 #[Hn n,Nv 0 V,X na nn nc] w λe W=>e=Rt (St #[])/\∃az a1 a0,Nq W n a t m ⟨x,S ([],[])⟩ az a1 a0/\Kb m n n w W:=by
 let⟨q,u⟩:=h.2;dsimp only at q u;let⟨K,v⟩:=u.1;let⟨Q_,a3⟩:=h.4;have aa:n<Z w.1:=O;have z:=λc=>Xb (Below.refl (Z w.1) w) c;have c2:=λc=>oB (z c) h.1.3 aa
 have H_:Q (∀c F,Sx (D (D w c) F) m 71 6 (X p k B) k K):=Y (λc F=>by rw[q];exact Zl v λb e=>(Xb (z c) F).5 b (v.lt b e).2);have X_:Q (∀c j f g d,Sx d m 71 6 (Hl f (k+1) g) (k+1) (K++[Hq,Hq,H 0,H 0,H 0,H 0])->(D (D w c) (Sc #[Hq,Hq,H 0,H 0,H 0,H 0] j)).grownBy d (X p k B).ownBlock->((X p k B).ownBlock=S f\/f=Z w.1+1+1)->E d (A n 2)=S (X p k B)/\E d (A n 3)=S (Sb Sn)/\(∀o,d.frozen? (A n o)=Sn)/\Nq (Se (Se d (A n 2) (Hl f (k+1) g)) (A n 3) (Sb So)) n a t m ⟨x,S ([],[])⟩ (S ⟨f,0,U⟩) (k+1) g/\Kb m n n w (Se (Se d (A n 2) (Hl f (k+1) g)) (A n 3) (Sb So))):=Y (λc j f g d M_ i l=>by
  have b2:=Xb (z c) (Sc #[Hq,Hq,H 0,H 0,H 0,H 0] j);have e2:Z (D (D w c) (Sc #[Hq,Hq,H 0,H 0,H 0,H 0] j)).1=Z w.1+1+1:=sP;have ad:=i.4;rw[e2]at ad;have ac:=u.keep (w':=D (D w c) (Sc #[Hq,Hq,H 0,H 0,H 0,H 0] j)) (λb _ s=>b2.5 b s) O;have L:=H_ c<|.cells #[Hq,Hq,H 0,H 0,H 0,H 0] j;rw[q]at L M_ i l |-;have ab:=ac.open_ L M_ i (by rw[e2];exact l);have low:∀b,b<m->d.1[b]?=w.1[b]?:=λb C=>G (i.5 b O λe=>by have:=(L.lt b e.symm).1;omega) (b2.5 b O);have r:=low n Q_;have q2:=G (Xc (o:=2) r) h.1.3;rw[q]at q2;have q3:=G (Xc (o:=3) r) h.1.4;have S_:=λo=>G (bJ (a:=(A n o)) r) (h.3 o);have T_:∀b,b≠n->(Se (Se d (A n 2) (Hl f (J x+1) g)) (A n 3) (Sb So)).1[b]?=d.1[b]?:=λb C=>G (Below.heap_setCell _ _ _ _ C) (Below.heap_setCell _ _ _ _ C);have XL:∀(M:Ub)(P y:N)(V_:Uj),P≠y->E (Se M (A n P) V_) (A n y)=E M (A n y):=λM P y V_ aj=>cJ (by intro e;injection e with _ e;exact aj e);refine⟨q2,q3,S_,⟨⟨?_,?_,?_,?_⟩,?_,λo=>?_,⟨Q_,SB⟩⟩,Kb.low' i.1 i.2 i.3 SB λb J_ s=>G (T_ b s) (low b J_)⟩;·rw[XL _ _ _ _ vY,XL _ _ _ _ vY];exact G (Xc r) h.1.1
  .rw[XL _ _ _ _ vY,XL _ _ _ _ vY];exact G (Xc r) h.1.2
  .rw[XL _ _ _ _ vY];exact fQ _ _ _ q2
  .exact fQ _ _ _<|G (XL _ _ _ _ vY) q3
  .exact⟨_,f,_,_,_,_,R,R,ab.keep (λb J_ s=>T_ b O) sP⟩
  rw[eX,eX];exact S_ o)
 let⟨i0,af,ap,aq,ar⟩:=fX Qm;have ao:(k=0/\True)\/∃T,p=S (A T 0):=by
  obtain⟨e,h0⟩|⟨T,_,_,e,_⟩:=v.2;·exact bC ⟨O,trivial⟩
  right;injection e with e;exact⟨T,e⟩
 clear h u v q ao;unfold Nv
 go_in
 go_wp2_with (at_builtin;refine wpList_append_lies _ R _ _ 38 R m 71 i0 (Sa #[Hq,Hq,H 0,H 0,H 0,H 0]) 6 80 underlying38 af ap aq ar R vY (X p k B) k K SE (H_ _ _) (A (Z w.1+1) 0) 1 1 [Hq,Hq,H 0,H 0,H 0,H 0] SE R (World.news_of_block (by have R_:=tc (D w<|.cells #[H 0,H V] 241) (Sc #[Hq,Hq,H 0,H 0,H 0,H 0] 71);rw[aO]at R_;exact R_)) (by intro a4 P_;simp at P_;obtain rfl|rfl:=P_<;>rfl) vY SD O SB (Z w.1+1+1) sP ?_;intro f g d N_ K_ l al;let⟨d2,d3,dz,O_,L_⟩:=X_ _ _ _ _ _ N_ K_ l;have Z_:=Y O_;have Y_:=Y L_;clear N_ K_ l al O_ L_)
 exact bodyPost_end (v:=St #[]) (by simp[results,results191,go_sem]) R ⟨R,_,_,_,Z_,Y_⟩
theorem MH{d:Za}(af:I)(s:Q (Nq w n a t m ⟨x,S (d,[])⟩ p k B))(y:Q (Sw (Z w.1) w v))(b7:k<=100000)(b6:J d<=100000)(Q_:Q (j=J l))(b4:2<=j)(b5:j<=1000000)(b0:j<=c)(U_:Q (Xf v (Z w.1) (Z v.1) (S ⟨g,i,U⟩) l)):
 Sk prog 191 #[Hn n,Nv 1 af,Hm g i j c] v λe M=>e=Rt (St #[])/\∃bn bp bo,Nq M n a t m ⟨x,S (d++[⟨l.getD 0 0,l.tail⟩],[])⟩ bn bp bo/\Kb m n n v M:=by
 let⟨J_,K,F,P,ia,ic,V_,a2,M_⟩:=s.2;dsimp only at a2 M_;let⟨bm,cd⟩:=s.4;have bb:=y.4;let⟨⟨b8,ca⟩,cb,cc⟩:=M_.3;have R_:=s.keep y;have K_:=Y (M_.keep (w':=v) (λb _ O_=>y.5 b O_) bb);have ad:=Y (by obtain⟨_,_,_,s⟩|⟨s,_⟩:=M_.7;exact s;exact Sz R s);let⟨S_,T⟩:=ad.1;let⟨p0,p1⟩:v.cell? (A g i)=S (H<|l.getD 0 0)/\Z w.1<=g/\g<Z v.1:=by
  let⟨b',o',e,u,T_⟩:=U_ 0<|oN Q_.o;cases e;exact⟨G T_ (by have:=Q_.o;simp[show 0<J l by omega]),u⟩
 have al:n<Z v.1:=O;have aj:K<Z v.1:=O;have C:=λh=>Xb (Below.refl (Z v.1) v) h
 have HM:Q (J x=k-1):=Y O;let⟨o,N_⟩:∃o,J x=o:=⟨_,R⟩;have X_:k=o+1:=O;have a7:Q (∀h,Sk prog 215 #[Hn n] (D v h) λe M=>e=Rt (Ho K<|o*6)/\M=(D v h).drew):=Y (λh=>pP n a t K o B So (D v h) (by
  have u:=(R_.1.keep<|(C h).5 n al);rw[V_,X_]at u;exact u) O)
 have aa:Q (∀W,Sw (Z v.1) v W->Sx W J_ 73 2 (X F (J d) P) (J d) S_):=Y λW f=>Zl T λb e=>G (f.5 b<|oN ((T.lt b e).2)) (y.5 b (T.lt b e).2);have ac:Q (∀W,Sw (Z v.1) v W->E W (A K<|o*6)=S (X F (J d) P)):=Y (λW f=>G (f.cell (p:=A K<|o*6) aj) (by rw[<-N_];exact K_.4));have a5:Q (∀W r V q,Sw (Z v.1) v W->Sx q J_ 73 2 (Hl r (J d+1) V) (J d+1) (S_++[H<|l.getD 0 0,Hm g (i+1) (j-1) (c-1)])->W.grownBy q (X F (J d) P).ownBlock->((X F (J d) P).ownBlock=S r\/r=Z W.1)->E q (A K<|o*6)=S (X F (J d) P)/\(∀L,q.frozen? (A K L)=Sn)/\E q (A g i)=S (H<|l.getD 0 0)/\Nq (Se q (A K<|o*6) (Hl r (J d+1) V)) n a t m ⟨x,S (d++[⟨l.getD 0 0,l.tail⟩],[])⟩ (S ⟨K,0,U⟩) (o+1) B/\Kb m n n v (Se q (A K<|o*6) (Hl r (J d+1) V))):=Y (λW r V q f ho z P_=>by
  have a9:=f.4;have b3:=z.4;have ao:=aa W f;have ba:=K_.keep (w':=W) (λb _ O_=>f.5 b O_) a9;have bf:J l.tail=j-1:=by rw[List.length_tail,<-Q_.o]
  have aq:=ba.phi ao ⟨l.getD 0 0,l.tail⟩ (a:=S<|A g (i+1)) (c:=c-1) (λY_ hj=>by
   let⟨b',o',e,u,T_⟩:=(U_.keep<|f.mono aA) (Y_+1) (by rw[List.length_tail]at hj;omega);cases e;refine⟨g,i+1,R,O,λe2=>by have:=(T.lt g e2.symm).2;omega,?_⟩;rw[show i+1+Y_=i+(Y_+1) by omega,T_];simp) (by dsimp only;rw[bf];exact ho) z P_
  rw[N_]at aq;have low:∀b,b<J_->q.1[b]?=W.1[b]?:=λb h1=>z.5 b O (λe=>by have:=(ao.lt b e.symm).1;omega);have kG:=G (low K O) (f.5 K aj);have far:∀b,b≠K->(Se q (A K<|o*6) (Hl r (J d+1) V)).1[b]?=q.1[b]?:=λb y=>Below.heap_setCell _ _ _ _ y;have kR:=G (low n O) (f.5 n al);have a4:=G (far n O) kR;have kn:=G (z.5 g O λe=>by have:=(T.lt g e.symm).2;omega) (f.5 g p1.2);have a0:=R_.1.keep a4;rw[V_,X_]at a0;have be:=λL=>ol K_.1.choose_spec L
  refine⟨G (Xc kG) (by rw[<-N_];exact K_.4),λL=>G (bJ kG) (be L),G (Xc kn) p0,⟨a0,⟨_,_,_,_,_,_,R,by show o+1=J x+1;rw[N_],aq⟩,λL=>G (bJ a4) (R_.3 L),⟨bm,SF⟩⟩,Kb.low' (G z.1 f.1) (G z.2 f.2) (G z.3 f.3) SF λb h1 O_=>G (far b O) (G (low b O) (f.5 b O))⟩)
 let⟨i0,bc,bh,bi,bl⟩:=fX Qn;have ab:=λh=>Y<|C h;have bx:J_<=Z v.1:=O;have cg:=λh=>oB (C h) p0 O;have bt:=λh=>ac _<|C h;have bv:=λh bq=>ac _<|Xb (C h) bq;have ex:0<j:=O;have ey:(1:I)<=(j:I):=O;have ez:¬c=1:=O;have ce:K≠g:=O;have cf:g≠K:=O;clear s y M_ R_ K_ ad T U_ Q_ N_ HM C X_ V_ a2;unfold Nv;generalize l.getD 0 0=Z_ at*;generalize J d=pl at*
 go_in
 go_wp2_with (go_at_call 215;refine(a7 _).mono ?_;rintro e w1⟨rfl,a3⟩;rw[a3];clear a3 w1)
 refine Y7 (λM=>E M (A g i)=S (H Z_)) λhHeld=>?_;refine Xn 0 ?_;refine Xn 1 ?_;refine Xn 2 ?_;refine Xn 3 ?_;refine Xn 5 ?_;refine Xn 6 ?_;refine Xn 7 ?_;refine Xn 8 ?_;refine Xn 9 ?_;refine Xn 10 ?_;refine eS (rs:=[4,11]) vZ sP ?_;refine(bQ R (λL_ hK=>?_) (bQ R (λL_ hK=>?_) dY))
 focus
  go_simp;refine hK _ _ kP λhHeld=>?_;clear hK
  try simp only[xX]
 rotate_left
 all_goals
  try (refine eS (rs:=[11]) vZ sP ?_;refine bQ R (λL_ hK=>?_) dY)
  go_simp;refine hK _ _ kP λhHeld=>?_;clear hK
  try simp only[xX]
 rotate_left
 rotate_right
 focus
  refine Xs 4 λL_ hK=>?_;go_simp;refine hK _ _ kP λhHeld=>?_;clear hK
 all_goals
  refine Xs 12 λL_ hK=>?_;refine step_append_lies _ R (.tmp 37) (.tmp 44) 69 R J_ 73 i0 (Sa #[H 0,Hq]) 2 32 underlying69 bc bh bi bl R vY (X F pl P) pl S_ SE (aa _ (Xb (ab _).o _).drew.drew) (A (Z v.1+1) 0) 1 1 [H Z_,Hm g (i+1) (j-1) (c-1)] SE R (World.news_of_block (by have u:=tc (D v<|.cells #[H 1,H af] 241) (Sc #[H Z_,Hm g (i+1) (j-1) (c-1)] 73);rw[aO]at u;exact u)) (by intro ch hu;simp at hu;obtain rfl|rfl:=hu<;>rfl) vY SD O SB (Z v.1+1+1) sP ?_;intro r V q az ap P_ bd;let⟨d2,dz,dn,a1,ar⟩:=a5 _ _ _ _ (Xb (ab _).o _).drew.drew az ap (by simpa using P_);have a8:=Y a1;have a6:=Y ar;have br:=dz<|o*6;clear az ap P_ bd a1 ar dz;refine hK _ _ kP λhHeld=>?_;clear hK;refine Xn 13 ?_;refine Xn 14 ?_;refine Xs 15 λL_ hK=>?_;go_simp;refine hK _ _ kP λhHeld=>?_;clear hK;refine Yq ?_;go_wp2;exact bodyPost_end (v:=St #[]) (by simp[results,results191,go_sem]) R ⟨R,_,_,_,a8,a6⟩
def dv:List Bool->List N->List N
 |k::ks,p::ps=>if k then p::dv ks ps else dv ks ps
 |_,_=>[]
theorem sE(c:N):∀(a:List Bool)(b:Wa),Yd a (b.map λo=>(⟨c,o,U⟩:Addr))=(dv a b).map λo=>(⟨c,o,U⟩:Addr)
 |[],[]=>R
 |[],_::_=>R
 |_::_,[]=>R
 |k::a,o::b=>by cases k<;>simp[Yd,dv,sE c a b]
def ik:List Bool->List I->List I
 |[],_=>[]
 |true::ks,x::xs=>x::ik ks xs
 |true::ks,[]=>0::ik ks []
 |false::ks,xs=>0::ik ks xs
def sX(k:I)(d a b i:Bool)(c:Wc):Yg:=⟨k,(ik [d,a,b,i] c).getD 0 0,(ik [d,a,b,i] c).getD 1 0,(ik [d,a,b,i] c).getD 2 0,(ik [d,a,b,i] c).getD 3 0⟩
def OH(k:I)(a:Wc):Yg:=sX k (dB k) (aB k) (bB k) (iB k) a
def sV(k:I)(a t e:Bool)(b:Wc):Yj:=⟨k,(ik [a,t,e] b).getD 0 0,(ik [a,t,e] b).getD 1 0,(ik [a,t,e] b).getD 2 0⟩
def OK(k:I)(a:Wc):Yj:=sV k (k != 1) (k != 3) (k==2) a
theorem sd{c b:N}(h:c<=b):∀(l:List (N×I))(a w:Ub),Sw c a w->Sw c a (cu w b l)
 |[],_,_,k=>k
 |(o,x)::r,a,w,k=>by rw[cu];exact sd h r a _<|k.setCell h _
theorem Mr{a b i:Bool}(c:J l=[r,a,b,i].count So)(h:Jk w n 0 ⟨t,0,0,0,0⟩):Jk (cu w n<|(dv [r,a,b,i] [1,2,3,4]).zip l) n 0 (sX t r a b i l):=by
 let⟨c0,c1,c2,c3,c4⟩:=h;simp only[aV]at c0 c1 c2 c3 c4;obtain _|⟨x,_|⟨y,_|⟨z,_|⟨u,_|⟨v,d⟩⟩⟩⟩⟩:=l<;>cases r<;>cases a<;>cases b<;>cases i<;>first
  |(exfalso;simp at c;done)
  |(exfalso;simp at c;omega)
  |(refine⟨?_,?_,?_,?_,?_⟩<;>simp[cu,dv,sX,ik,c0,c1,c2,c3,c4,go_sem])
theorem Mb{a e:Bool}(b:J l=[r,a,e].count So)(h:Va w n 0 ⟨t,0,0,0⟩):Va (cu w n<|(dv [r,a,e] [1,2,3]).zip l) n 0 (sV t r a e l):=by
 let⟨c0,c1,c2,c3⟩:=h;simp only[aV]at c0 c1 c2 c3;obtain _|⟨x,_|⟨y,_|⟨z,_|⟨u,c⟩⟩⟩⟩:=l<;>cases r<;>cases a<;>cases e<;>first
  |(exfalso;simp at b;done)
  |(exfalso;simp at b;omega)
  |(refine⟨?_,?_,?_,?_⟩<;>simp[cu,dv,sV,ik,c0,c1,c2,c3,go_sem])
theorem Af{c d:Type}:∀(l:List c)(r:List d),J l=J r->(l.zip r).map (·.1)=l
 |[],_,_=>sP
 |_::_,[],h=>by simp at h
 |a::l,b::r,h=>by simp[Af l r<|by simpa using h]
theorem Ae{c d:Type}:∀(l:List c)(r:List d),J l=J r->(l.zip r).map (·.2)=r
 |[],[],_=>R
 |[],_::_,h=>by simp at h
 |_::_,[],h=>by simp at h
 |a::l,b::r,h=>by simp[Ae l r<|by simpa using h]
theorem Ka(a:List Bool)(b:Wa)(h:J a=J b):J (dv a b)=a.count So:=by
 induction a generalizing b with
 |nil=>rfl
 |cons x r c=>cases b with
  |nil=>simp at h
  |cons q s=>cases x<;>simp[dv,c s<|by simpa using h]
theorem zw{e:N}:∀(b:List Bool)(a:Wa),(∀o∈a,o<e)->∀o∈dv b a,o<e
 |[],[],_,o,h=>by simp[dv]at h
 |[],_::_,_,o,h=>by simp[dv]at h
 |_::_,[],_,o,h=>by simp[dv]at h
 |k::b,p::a,hN,o,h=>by
  have c:=zw b a (λo d=>hN o<|cN _ d) o;cases k with
  |false=>simp only[dv]at h;exact c<|by simpa using h
  |true=>
   simp only[dv,gG,cH]at h;obtain rfl|h:=h;·exact hN _<|cI ..
   exact c h
theorem zK(c L K:N)(r:Vu)(a:List Bool)(b:Wa)(d:Wc)(v:Uj)(k C p j:N)(n:Uy)(e:N)(w:Ub)(M:Sx w k 225 1 v (J (Yd a<|b.map λo=>((A c o):Addr))) ((Yd a<|b.map λo=>((A c o):Addr)).map Tx))(y:J a=J b)(F:J d=a.count So)(l:e=J d)(z:e<=1000000)(B:w.rowIs c L K r)(s:∀o∈b,o<K)(x:Xf w p j n d)(t:c<k)(u:j<=c):
 ∃f g,v=X f e g/\Sk prog 216 #[X f e g,X n e C] w λi P=>i=Rt (St #[])/\P=cu w c ((dv a b).zip d):=by
 have T:=Ka a b y;obtain⟨f,g,rfl,m⟩:=UO M;rw[sE,jO]at m;have h:J (dv a b)=J d:=O;refine⟨f,g,by rw[sE,bK,bK,h,l],?_⟩;exact Mf (Y<|by simp[h,l]) (Y<|aA) z (Y B) (Y λq hq=>zw a b s q.1 (List.of_mem_zip hq).1) (Y (by
  have i:((dv a b).zip d).map (λq=>Tx<|A c q.1)=(dv a b).map (Tx ∘ λo=>((A c o):Addr)):=by
   conv=>rhs;rw[<-Af _ _ h]
   rw[jO];rfl
  rw[i];exact m)) (Y ((Ae _ _ h)▸x)) (bC t) (aZ u)
theorem Le(o:Sw (Z w.1) w v)(z:Z w.1<=m)(f:m<Z v.1)(r:Jk v m 0 ⟨n,0,0,0,0⟩){t:TypeId}(K:v.rowIs m t 5 h)(u:1<=n)(x:n<=13)(L:Yy v)(s:k=J l)(C:k=NP n)(M:k<=1000000)(P:Xf v g i p l)(y:i<=m):
 Sk prog 75 #[Hn m] v λe j=>∃b c,e=Rt (X b k c)/\Q (Sk prog 216 #[X b k c,X p k B] j λe d=>e=Rt (St #[])/\Q (Sw (Z w.1) w d)/\m<Z d.1/\Q (Jk d m 0<|OH n l)):=by
 refine(zE m n 0 0 0 0 v (Y r) u x (Y L)).mono ?_;rintro e j⟨T,rfl,a,F⟩;have W:=a.4;have q:J l=[dB n,aB n,bB n,iB n].count So:=s▸C;obtain⟨b,c,rfl,V⟩:=zK m t 5 h [dB n,aB n,bB n,iB n] [1,2,3,4] l T (Z v.1) B g i p k j F R q s M (K.of_block<|a.5 m f) sP (P.keep<|a.mono O) f y;refine⟨b,c,R,Y<|V.mono ?_⟩;rintro e d⟨rfl,rfl⟩;exact⟨R,Y<|sd z _ _ _ (o.trans<|a.mono o.4),by rw[se];omega,Y<|Mr q (r.keepS<|a.5 m f)⟩
theorem Lm(o:Sw (Z w.1) w v)(z:Z w.1<=m)(f:m<Z v.1)(r:Va v m 0 ⟨n,0,0,0⟩){t:TypeId}(K:v.rowIs m t 4 h)(u:1<=n)(x:n<=3)(L:Yb v)(s:k=J l)(C:k=NQ n)(M:k<=1000000)(P:Xf v g i p l)(y:i<=m):
 Sk prog 76 #[Hn m] v λe j=>∃b c,e=Rt (X b k c)/\Q (Sk prog 216 #[X b k c,X p k B] j λe d=>e=Rt (St #[])/\Q (Sw (Z w.1) w d)/\m<Z d.1/\Q (Va d m 0<|OK n l)):=by
 refine(zD (Y r) u x (Y L)).mono ?_;rintro e j⟨T,rfl,a,F⟩;have W:=a.4;have q:J l=[(n:I) != 1,(n:I) != 3,(n:I)==2].count So:=s▸C;obtain⟨b,c,rfl,V⟩:=zK m t 4 h [(n:I) != 1,(n:I) != 3,(n:I)==2] [1,2,3] l T (Z v.1) B g i p k j F R q s M (K.of_block<|a.5 m f) sP (P.keep<|a.mono O) f y;refine⟨b,c,R,Y<|V.mono ?_⟩;rintro e d⟨rfl,rfl⟩;exact⟨R,Y<|sd z _ _ _ (o.trans<|a.mono o.4),by rw[se];omega,Y<|Mb q (r.keepS<|a.5 m f)⟩
theorem Ac(W:Ub)(c:Zh)(t:TypeId):(D W<|.cells c t).rowIs (Z W.1) t (Z c) (λi=>c[i]!):=eK W c t _ λi a=>by simp[a]
theorem MA{ps:Za}{d:Vr}(L_:Q (Nq w n a t m ⟨x,S (ps,d)⟩ p k B))(K:Q (Sw (Z w.1) w v))(cf:k<=100000)(cd:J d<=100000)(aq:1<=g)(ar:g<=13)(X_:Q (Yy v))(a1:Q (i=J l))(af:Q (i=NP g))(bp:i<=1000000)(a0:Q (Xf v (Z w.1) (Z v.1) P l)):
 Sk prog 191 #[Hn n,Nv 2 g,X P i j] v λe h=>e=Rt (St #[])/\∃b0 b4 b3,Nq h n a t m ⟨x,S (ps,d++[OH g l])⟩ b0 b4 b3/\Kb m n n v h:=by
 let⟨b6,F,pa,pc,T,V,Y_,a6,M_⟩:=L_.2;dsimp only at a6 M_;let⟨bx,ck⟩:=L_.4;have bm:=K.4;let⟨⟨cg,ch⟩,ci,cj⟩:=M_.3;have O_:=L_.keep K;have z:=Y (M_.keep (w':=v) (λb _ s=>K.5 b s) bm);let⟨F_,S_,⟨bf,ca⟩,a3,ap,N_⟩:=z.insRow;have ad:n<Z v.1:=O;have ac:F<Z v.1:=O;have b1:=λr=>Xb (Below.refl (Z v.1) v) r
 let⟨f,H_⟩:∃f,J x=f:=⟨_,R⟩;have Z_:k=f+1:=O;have bc:Q (∀W,Sw (Z v.1) v W->Sk prog 215 #[Hn n] W λe h=>e=Rt (Ho F<|f*6)/\h=W.drew):=Y (λW c=>pP n a t F f B So W (by
  have Q_:=(O_.1.keep<|c.5 n ad);rw[Y_,Z_]at Q_;exact Q_) O)
 have be:Q (∀r,Sk prog 75 #[Hn<|Z v.1+1] (D (D v r) (Sc #[H g,H 0,H 0,H 0,H 0] 59)) λe w5=>∃T_ U_,e=Rt (X T_ i U_)/\Q (Sk prog 216 #[X T_ i U_,X P i j] w5 λe h=>e=Rt (St #[])/\Q (Sw (Z v.1) v h)/\Z v.1+1<Z h.1/\Q (Jk h (Z v.1+1) 0 (OH g l)))):=Y (λr=>by
  have es:Z v.1+1=Z (D v r).1:=(aO _ _).symm;have V_:=Xb (b1 r) (Sc #[H g,H 0,H 0,H 0,H 0] 59);have hr:=Ac (D v r) #[H g,H 0,H 0,H 0,H 0] 59;rw[<-es]at hr;exact Le V_ O sP (Ad g es) hr aq ar (X_.keep V_ X_.1) a1 af bp (a0.keep V_) O)
 have aa:Q (∀W,Sw (Z v.1) v W->Sx W F_ 59 5 (X T (J d) V) (J d) S_):=Y λW c=>Zl N_ λb e=>c.5 b (N_.lt b e).2;have ab:Q (∀W,Sw (Z v.1) v W->E W (A F<|f*6+1)=S (X T (J d) V)):=Y (λW c=>G (c.cell (p:=A F<|f*6+1) ac) (by rw[<-H_];exact z.5));generalize OH g l=r at*;have a9:Q (∀W L M q,Sw (Z v.1) v W->Sx q F_ 59 5 (Hl L (J d+1) M) (J d+1) (S_++r.cells)->W.grownBy q (X T (J d) V).ownBlock->E q (A F<|f*6+1)=S (X T (J d) V)/\(∀o,q.frozen? (A F o)=Sn)/\(∀b o,Z v.1<=b->b<Z W.1->E q (A b o)=E W (A b o))/\Nq (Se q (A F<|f*6+1) (Hl L (J d+1) M)) n a t m ⟨x,S (ps,d++[r])⟩ (S ⟨F,0,U⟩) (f+1) B/\Kb m n n v (Se q (A F<|f*6+1) (Hl L (J d+1) M))):=Y (λW L M q c ho u=>by
  have bh:=c.4;have cc:=u.4;have aj:=aa W c;have bl:=z.keep (w':=W) (λb _ s=>c.5 b s) bh;have ao:=bl.ins (H2:=F_) ⟨bf,O⟩ (a3.keepS λb _ s=>c.5 b O) (ap.keep λb _ s=>c.5 b s) aj r ho u;rw[H_]at ao;have low:∀b,b<F_->q.1[b]?=W.1[b]?:=λb h1=>u.5 b O (λe=>by have:=(aj.lt b e.symm).1;omega);have kG:=G (low F O) (c.5 F ac);have far:∀b,b≠F->(Se q (A F<|f*6+1) (Hl L (J d+1) M)).1[b]?=q.1[b]?:=λb K=>Below.heap_setCell _ _ _ _ K;have kR:=G (low n O) (c.5 n ad);have a8:=G (far n O) kR;have a4:=O_.1.keep a8;rw[Y_,Z_]at a4;have bq:=λo=>ol z.1.choose_spec o
  refine⟨G (Xc kG) (by rw[<-H_];exact z.5),λo=>G (bJ kG) (bq o),λb o h1 s=>Xc (u.5 b s λe=>by have:=(N_.lt b e.symm).2;omega),⟨a4,⟨_,_,_,_,_,_,R,by show f+1=J x+1;rw[H_],ao⟩,λo=>G (bJ a8) (O_.3 o),⟨bx,SF⟩⟩,Kb.low' (G u.1 c.1) (G u.2 c.2) (G u.3 c.3) SF λb h1 s=>G (far b O) (G (low b O) (c.5 b O))⟩)
 let⟨i0,bn,br,bt,bv⟩:=fX RB;have cl:F≠Z v.1+1:=O;have cm:Z v.1+1≠F:=O;clear L_ K M_ O_ z N_ a0 a1 af H_ Z_ Y_ a6 a3 ap X_ b1 aq ar;unfold Nv;let⟨xo,xd,xa,xb,xi⟩:=r;generalize J d=il at*
 go_in
 go_wp2_with (first
  |(go_at_call 75;refine(be _).mono ?_;rintro e w5⟨T_,U_,rfl,HF⟩)
  |(go_at_call 216;refine HF.mono ?_;rintro e R_⟨rfl,y,cb,ba⟩;have ce:=y.4;let⟨q0,q1,q2,q3,q4⟩:=ba.o;simp only[aV]at q0 q1 q2 q3 q4;have g6:=ab _ y;have b8:=λb5=>ab _<|Xb y b5)
  |(go_at_call 215;refine(bc _ y).mono ?_;rintro e w1⟨rfl,a7⟩;rw[a7];clear a7 w1))
 refine Y7 (λh=>E h (A (Z v.1+1) 0)=S (H xo)/\E h (A (Z v.1+1) 1)=S (H xd)/\E h (A (Z v.1+1) 2)=S (H xa)/\E h (A (Z v.1+1) 3)=S (H xb)/\E h (A (Z v.1+1) 4)=S (H xi)) λhHeld=>?_;refine Xn 0 ?_;refine Xn 1 ?_;refine Xn 2 ?_;refine Xn 3 ?_;refine Xn 5 ?_;refine eS (rs:=[4,6]) vZ sP ?_;refine(bQ R (λK_ hK=>?_) (bQ R (λK_ hK=>?_) dY))
 focus
  go_simp;refine hK _ _ kP λhHeld=>?_;clear hK
  try simp only[xX]
 rotate_left
 all_goals
  try (refine eS (rs:=[6]) vZ sP ?_;refine bQ R (λK_ hK=>?_) dY)
  go_simp;refine hK _ _ kP λhHeld=>?_;clear hK
  try simp only[xX]
 rotate_left
 rotate_right
 focus
  refine Xs 4 λK_ hK=>?_;go_simp;refine hK _ _ kP λhHeld=>?_;clear hK
 all_goals
  refine Xs 7 λK_ hK=>?_;refine step_append_lies _ R (.tmp 62) (.tmp 64) 52 R F_ 59 i0 (Sa #[H 0,H 0,H 0,H 0,H 0]) 5 40 underlying52 bn br bt bv R vY (X T il V) il S_ SE (aa _ (Xb y _).drew.drew) (A (Z R_.1) 0) 1 1 [H xo,H xd,H xa,H xb,H xi] SE R (World.news_of_block (by have Q_:=tc R_<|.cells #[H xo,H xd,H xa,H xb,H xi] 59;exact Q_)) (by intro cn hu;simp at hu;obtain rfl|rfl|rfl|rfl|rfl:=hu<;>rfl) vY SD O SB (Z R_.1+1) sP ?_;intro L M q a2 al bi bo;let⟨d2,dz,dn,a5,az⟩:=a9 _ _ _ _ (Xb y _).drew.drew a2 al;have bd:=Y a5;have bb:=Y az;have b7:=dz<|f*6+1;let⟨s0,s1,s2,s3,s4⟩:=hHeld;have C:=λo=>dn (Z v.1+1) o O (by show _<Z (D R_ _).1;rw[aO];omega);have r0:=G (C 0) s0;have r1:=G (C 1) s1;have r2:=G (C 2) s2;have r3:=G (C 3) s3;have r4:=G (C 4) s4;clear a2 al bi bo a5 az dz dn C s0 s1 s2 s3 s4;refine hK _ _ (by first|exact⟨r0,r1,r2,r3,r4⟩|((try dsimp only);go_keep)) λhHeld=>?_;clear hK;refine Xn 8 ?_;refine Xn 9 ?_;refine Xs 10 λK_ hK=>?_;go_simp;refine hK _ _ kP λhHeld=>?_;clear hK;refine Yq ?_;go_wp2;exact bodyPost_end (v:=St #[]) (by simp[results,results191,go_sem]) R ⟨R,_,_,_,bd,bb⟩
theorem MM{V:Za}{Q_:Vr}(C:Q (Nq w n a t m ⟨x,S (V,Q_)⟩ p k B))(h:Q (Sw (Z w.1) w v))(bp:k<=100000)(ac:1<=g)(ad:g<=3)(M_:Q (Yb v))(al:Q (i=J l))(ab:Q (i=NQ g))(bc:i<=1000000)(aj:Q (Xf v (Z w.1) (Z v.1) P l)):
 Sk prog 191 #[Hn n,Nv 3 g,X P i j] v λe f=>e=Rt (St #[])/\∃bf bi bh,Nq f n a t m ⟨x++[⟨V,Q_,OK g l⟩],U⟩ bf bi bh/\Kb m n n v f:=by
 obtain⟨bl,F,pa,pc,ia,ic,N_,aq,K⟩:=C.2;dsimp only at aq K;obtain⟨be,bx⟩:=C.4;have ba:=h.4;obtain⟨⟨bq,br⟩,bt,bv⟩:=K.3;have y:=C.keep h;have L:=Y (K.keep (w':=v) (λc _ s=>h.5 c s) ba);have Z_:n<Z v.1:=O;have a7:F<Z v.1:=O;have V_:=λr=>Xb (Below.refl (Z v.1) v) r
 obtain⟨b,K_⟩:∃b,J x=b:=⟨_,R⟩;have O_:k=b+1:=O;have a4:Q (∀W,Sw (Z v.1) v W->Sk prog 215 #[Hn n] W λe f=>e=Rt (Ho F<|b*6)/\f=W.drew):=Y (λW q=>pP n a t F b B So W (by
  have az:=(y.1.keep<|q.5 n Z_);rw[N_,O_]at az;exact az) O)
 have a6:Q (∀r,Sk prog 76 #[Hn<|Z v.1+1] (D (D v r) (Sc #[H g,H 0,H 0,H 0] 54)) λe w5=>∃H_ I_,e=Rt (X H_ i I_)/\Q (Sk prog 216 #[X H_ i I_,X P i j] w5 λe f=>e=Rt (St #[])/\Q (Sw (Z v.1) v f)/\Z v.1+1<Z f.1/\Q (Va f (Z v.1+1) 0 (OK g l)))):=Y (λr=>by
  have X_:Z v.1+1=Z (D v r).1:=(aO _ _).symm;have J_:=Xb (V_ r) (Sc #[H g,H 0,H 0,H 0] 54);have hr:=Ac (D v r) #[H g,H 0,H 0,H 0] 54;rw[<-X_]at hr;exact Lm J_ O sP (z9 g X_) hr ac ad (M_.keep J_ M_.1) al ab bc (aj.keep J_) O)
 have T_:Q ((OK g l).1≠0):=Y (by show(g:I)≠0;omega);generalize OK g l=d at*;have a1:Q (∀W,Sw (Z v.1) v W->(E W (A F<|b*6+2)=S (H 0)/\E W (A F<|b*6+2+1)=S (H 0)/\E W (A F<|b*6+2+2)=S (H 0)/\E W (A F<|b*6+2+3)=S (H 0))/\(∀o,W.frozen? (A F o)=Sn)/\E W (A n 3)=S (Sb So)/\(∀o,W.frozen? (A n o)=Sn)/\Nq (Se (Se (Se (Se (Se W (A F<|b*6+2) (H d.1)) (A F<|b*6+2+1) (H d.a)) (A F<|b*6+2+2) (H d.3)) (A F<|b*6+2+3) (H d.4)) (A n 3) (Sb Sn)) n a t m ⟨x++[⟨V,Q_,d⟩],U⟩ (S ⟨F,0,U⟩) (b+1) B/\Kb m n n v (Se (Se (Se (Se (Se W (A F<|b*6+2) (H d.1)) (A F<|b*6+2+1) (H d.a)) (A F<|b*6+2+2) (H d.3)) (A F<|b*6+2+3) (H d.4)) (A n 3) (Sb Sn))):=Y (λW q=>by
  have a9:=q.4;have kG:=q.5 F a7;have R_:=q.5 n Z_;have aa:=(L.keep (w':=W) (λc _ s=>q.5 c s) a9).close d T_;obtain⟨t0,t1,t2,t3⟩:=L.6;rw[K_]at aa t0 t1 t2 t3;have a8:(λz:Ub=>(∀c,c≠F->z.1[c]?=W.1[c]?)/\Z z.1=Z W.1/\(z.4=W.4/\z.2=W.2/\z.5=W.5)) (Se (Se (Se (Se W (A F<|b*6+2) (H d.1)) (A F<|b*6+2+1) (H d.a)) (A F<|b*6+2+2) (H d.3)) (A F<|b*6+2+3) (H d.4)):=⟨(λc h=>by rw[Below.heap_setCell _ _ _ _ h,Below.heap_setCell _ _ _ _ h,Below.heap_setCell _ _ _ _ h,Below.heap_setCell _ _ _ _ h]),sP,⟨R,R,R⟩⟩;generalize (Se (Se (Se (Se W _ _) _ _) _ _) _ _)=M at*;obtain⟨Y_,bo,L_⟩:=a8;have kU:=G (Y_ n O) R_;have far:∀c,c≠n->(Se M (A n 3) (Sb Sn)).1[c]?=M.1[c]?:=λc h=>Below.heap_setCell _ _ _ _ h;have u:=y.1;have ao:=u.3;rw[N_,O_]at ao;have XL:∀(T:N)(a0:Uj),3≠T->E (Se M (A n 3) a0) (A n T)=E M (A n T):=λT a0 bb=>cJ (by intro e;injection e with _ e;exact bb e);have bd:=λo=>ol L.1.choose_spec o;refine⟨⟨G (Xc kG) t0,G (Xc kG) t1,G (Xc kG) t2,G (Xc kG) t3⟩,λo=>G (bJ kG) (bd o),G (Xc R_) u.4,λo=>G (bJ R_) (y.3 o),⟨⟨?_,?_,?_,?_⟩,⟨by simp[K_],aa.keep (λc h1 s=>far c O) sP⟩,λo=>?_,⟨be,SF⟩⟩,Kb.low' (G L_.1 q.1) (G L_.2.1 q.2) (G L_.2.2 q.3) SF λc h1 s=>G (far c s) (G (Y_ c O) (q.5 c O))⟩;·rw[XL _ _ vY];exact G (Xc kU) u.1
  .rw[XL _ _ vY];exact G (Xc kU) u.2
  .rw[XL _ _ vY];exact G (Xc kU) ao
  .exact fQ _ _ _<|G (Xc kU) u.4
  rw[eX];exact G (bJ kU) (y.3 o))
 have b3:F≠Z v.1+1:=O;have b5:Z v.1+1≠F:=O;have b0:F≠n:=O;have b4:n≠F:=O;clear C h K y L aj al ab K_ O_ N_ aq M_ V_ ac ad T_;unfold Nv;obtain⟨xo,xa,xb,xi⟩:=d
 go_in
 go_wp2_with (first
  |(go_at_call 76;refine(a6 _).mono ?_;rintro e w5⟨H_,I_,rfl,HF⟩)
  |(go_at_call 216;refine HF.mono ?_;rintro e w6⟨rfl,F_,bm,a2⟩;have bn:=F_.4;obtain⟨q0,q1,q2,q3⟩:=a2.o;simp only[aV]at q0 q1 q2 q3;obtain⟨⟨x0,x1,x2,x3⟩,xz,y3,yz,ap,af⟩:=a1 _ F_;have a5:=Y ap;have a3:=Y af;clear ap af))
 go_region_held3 (λf=>E f (A (Z v.1+1) 0)=S (H xo)/\E f (A (Z v.1+1) 1)=S (H xa)/\E f (A (Z v.1+1) 2)=S (H xb)/\E f (A (Z v.1+1) 3)=S (H xi)) (go_keep) ((go_at_call 215;refine(a4 _ F_.drew).mono ?_;rintro e w1⟨rfl,ar⟩;rw[ar];clear ar w1))
 all_goals
  go_wp2;exact bodyPost_end (v:=St #[]) (by simp[results,results191,go_sem]) R ⟨R,_,_,_,a5.keep (Rf).drew.drew,a3.drew.drew⟩
theorem Aa{f:Wn}(h:Np Sn f=So):NY Sn f=Gb f:=by
 have h:Ax f 4=So:=h;show NF f 4=Gb f;unfold NF Gb;rw[aU h,aU h]
theorem MQ{f:Wn}(h:Np So f=So):NY So f=i9 f:=by
 have h:NM f=So:=h;show fp f=i9 f;unfold fp;rw[aU h]
theorem pS{q:Ys}(hq:∀i,q i=Sn):∀(r:Vw)(i:N),bg q i r=So->GI q i r=r.map Gb
 |[],_,_=>R
 |f::r,i,h=>by
  rw[bg,hq i,bY]at h;rw[GI,hq i,Aa h.1,pS hq r (i+1) h.2];rfl
def dx(b:N)(c:N)(a:List I)(s:NX):Option NX :=
 if b=0 then (match s.2 with|some _=>U|none=>S ⟨s.1,S ([],[])⟩)
 else match s.2 with
  |none=>U
  |some (ps,is)=>
   if b=1 then (if is=[]then S ⟨s.1,S (ps++[⟨a.getD 0 0,a.tail⟩],is)⟩else U)
   else if b=3 then S ⟨s.1++[⟨ps,is,OK c a⟩],U⟩
   else S ⟨s.1,S (ps,is++[OH c a])⟩
theorem L8{F:Wn}{r:Vw}(d:D2 F=n)(j:1<=n)(k:n<=10)(c:J r=NP n)(a:bg (FZ 2 n (J r)) 0 r=So):T1 (F::r)=OH n (GI (FZ 2 n (J r)) 0 r):=by
 have e:T1 (F::r)=ND (F::r) n (J (fv n)):=by unfold T1;rw[List.headD_cons,d]
 rw[e];have f:n=1\/n=2\/n=3\/n=4\/n=5\/n=6\/n=7\/n=8\/n=9\/n=10:=O;by_cases b:n=1
 .subst b
  obtain⟨x,y,rfl⟩:∃x y,r=[x,y]:=by
   rw[show NP 1=2 by decide]at c
   match r,c with
   |[x,y],_=>exact⟨x,y,R⟩
  simp only[bg,FZ,bA,bO,Bool.and_true,bY]at a;simp only[GI,FZ,bA,bO];let⟨g,h⟩:=a;have v1:=Aa (f:=x) g;have v2:=MQ (f:=y) h;show ND (F::[x,y]) 1 2=OH 1 [NY Sn x,NY So y];rw[v1,v2];rfl
 have hq:∀i,FZ 2 n (J r) i=Sn:=λi=>by simp[FZ,b]
 rw[pS hq r 0 a];obtain rfl|rfl|rfl|rfl|rfl|rfl|rfl|rfl|rfl|rfl:=f;·exact Sz R b
 all_goals
  obtain _|⟨x,_|⟨y,_|⟨z,_|⟨u,t⟩⟩⟩⟩:=r
  all_goals first
   |(exfalso;revert c;simp[NP,dB,aB,bB,iB];done)
   |rfl
theorem Ma{F:Wn}{r:Vw}(hF:(F=fg/\n=1)\/(F=Vn/\n=2)\/(F=ew/\n=3))(b:J r=NQ n)(a:bg (FZ 3 n (J r)) 0 r=So):Y4 (F::r)=OK n (GI (FZ 3 n (J r)) 0 r):=by
 have hq:∀i,FZ 3 n (J r) i=Sn:=λi=>by simp[FZ]
 rw[pS hq r 0 a];obtain⟨rfl,rfl⟩|⟨rfl,rfl⟩|⟨rfl,rfl⟩:=hF
 all_goals
  obtain _|⟨x,_|⟨y,_|⟨z,_|⟨u,t⟩⟩⟩⟩:=r
  all_goals first
   |(exfalso;revert b;simp[NQ];done)
   |rfl
theorem Mg(F:Wn){r:Vw}(a:2<=J r)(b:bg (FZ 1 n (J r)) 0 r=So):jt (F::r)=⟨(GI (FZ 1 n (J r)) 0 r).getD 0 0,(GI (FZ 1 n (J r)) 0 r).tail⟩:=by
 have hq:∀i,FZ 1 n (J r) i=Sn:=λi=>by simp[FZ]
 rw[pS hq r 0 b]
 match r,a with
 |x::y::t,_=>rfl
theorem LO(s:NX)(F:Wn)(r:Vw)(c b:N)(a:fy F=S (c,b))(j:dr c b (J r)=So)(i:bg (FZ c b (J r)) 0 r=So):je s (F::r)=dx c b (GI (FZ c b (J r)) 0 r) s:=by
 unfold je;rw[List.headD_cons];unfold fy at a;let⟨n,d⟩:=s;by_cases f:D2 F≠0
 .rw[aU f]at a;cases a;let⟨⟨L,M⟩,x,y,z,K,B⟩:=oL f;have v:D2 F=((D2 F).toNat:I):=O;have h:J r=NP (D2 F).toNat:=by simpa [dr]using j
  have g:=L8 v O O h i;unfold dh dx;rw[aM x,aM vY];cases d with
  |none=>rfl
  |some e=>
   let⟨o,m⟩:=e;dsimp only;have C:jx F=Sn:=by
    unfold jx;have p:F≠[106,117,109,112]:=y;have q:F≠[114,101,116]:=z;have t:F≠[98,114,97,110,99,104]:=K;simp[p,q,t]
   rw[aM B,aM (by rw[C];decide),aM vY,aM vY,g]
 rw[aM f]at a;by_cases e1:F=eh
 .rw[aU e1]at a;cases a;unfold dh dx;rw[aU e1,aU R];cases d<;>rfl
 rw[aM e1]at a;by_cases e2:F=fm
 .rw[aU e2]at a;cases a;unfold dh dx;rw[aM e1,aM vY];cases d with
  |none=>rfl
  |some e=>
   let⟨o,m⟩:=e;dsimp only;rw[aU e2,aU R,Mg F (by simpa [dr]using j) i]
 rw[aM e2]at a
 have fin:∀k:N,(F=fg/\k=1)\/(F=Vn/\k=2)\/(F=ew/\k=3)->S (3,k)=S (c,b)->dh ⟨n,d⟩ F (F::r)=dx c b (GI (FZ c b (J r)) 0 r) ⟨n,d⟩:=λk l u=>by
  cases u;have h:J r=NQ b:=by simpa [dr]using j
  have g:=Ma l h i;have w:jx F=So:=by obtain⟨rfl,_⟩|⟨rfl,_⟩|⟨rfl,_⟩:=l<;>rfl
  unfold dh dx;rw[aM e1,aM vY];cases d with
  |none=>rfl
  |some e=>
   let⟨o,m⟩:=e;dsimp only;rw[aM e2,aU w,aM vY,aU R,g]
 by_cases e3:F=fg;·rw[aU e3]at a;exact fin 1 (bC ⟨e3,R⟩) a
 rw[aM e3]at a;by_cases e4:F=Vn;·rw[aU e4]at a;exact fin 2 (aZ<|bC ⟨e4,R⟩) a
 rw[aM e4]at a;by_cases e5:F=ew;·rw[aU e5]at a;exact fin 3 (aZ<|aZ ⟨e5,R⟩) a
 rw[aM e5]at a;cases a
theorem Lv(c:N)(e:Wc)(s:NX)(g:n<=3):(dx n c e s).isSome=sR n s.2.isSome (match s.2 with|none=>0|some (_,a)=>J a):=by
 let⟨h,d⟩:=s;have b:n=0\/n=1\/n=2\/n=3:=O;cases d with
 |none=>obtain rfl|rfl|rfl|rfl:=b<;>rfl
 |some f=>
  let⟨i,a⟩:=f;obtain rfl|rfl|rfl|rfl:=b;·rfl
  .cases a with
   |nil=>rfl
   |cons x r=>rfl
  .rfl
  rfl
theorem MB(h:Sx w n m 1 a k y)(f:0<k):∃g c,a=X (S ⟨g,0,U⟩) k c/\k<=c:=by
 obtain⟨_,h|⟨g,b,e,rfl,_,_,d,_⟩⟩:=h;·omega
 exact⟨g,b,R,d⟩
theorem MC{C f:NX}(h:Nq w n a t m C p k B)(s:Sw (Z w.1) w v)(K:TT C<=100000)(T:Yy v)(V:Yb v)(X_:g<=3)(W:g=2->1<=i/\i<=10)(O_:g=3->1<=i/\i<=3)(L:Sx v (Z w.1) 2 1 A_ j (l.map<|Value.int S6))(x:j=J l)(F:j<=1000000)(M:dr g i j=So)(b:dx g i l C=S f):
 Sk prog 191 #[Hn n,Nv g i,A_] v λe c=>e=Rt (St #[])/\∃S_ U_ T_,Nq c n a t m f S_ U_ T_/\Kb m n n v c:=by
 have y:=aJ h.2.len K;let⟨z,r⟩:=C;have L_:g=0\/g=1\/g=2\/g=3:=O;obtain⟨J_,c_,rfl,P⟩:=Xk L;rw[<-x]at L |-;obtain rfl|rfl|rfl|rfl:=L_
 .cases r with
  |some d=>exact Sz b<|by simp[dx]
  |none=>
   have e:f=⟨z,S ([],[])⟩:=by simpa [dx]using b.symm
   subst e;exact(LV i J_ j c_ (Y<|h.keep s) y).mono λe c h=>h
 .cases r with
  |none=>exact Sz b<|by simp[dx]
  |some d=>
   let⟨q,o⟩:=d;cases o with
   |cons Z_ Y_=>exact Sz b<|by simp[dx]
   |nil=>
    have e:f=⟨z,S (q++[⟨l.getD 0 0,l.tail⟩],[])⟩:=by simpa [dx]using b.symm
    subst e;have P_:2<=j:=by simpa [dr]using M
    let⟨W_,V_,K_,M_⟩:=MB L O;obtain⟨rfl,-,rfl⟩:=Value.slice.inj K_;exact(MH i (Y h) (Y s) y (by simp only[TT]at K;omega) (Y x) P_ F M_ (Y P)).mono λe c h=>h
 .cases r with
  |none=>exact Sz b<|by simp[dx]
  |some d=>
   let⟨q,o⟩:=d;have e:f=⟨z,S (q,o++[OH i l])⟩:=by simpa [dx]using b.symm
   subst e;have u:=W R;exact MA (Y h) (Y s) y (by simp only[TT]at K;omega) u.1 O (Y T) (Y x) (Y<|by simpa [dr]using M) F (Y P)
 cases r with
 |none=>exact Sz b<|by simp[dx]
 |some d=>
  let⟨q,o⟩:=d;have e:f=⟨z++[⟨q,o,OK i l⟩],U⟩:=by simpa [dx]using b.symm
  subst e;have u:=O_ R;exact MM (Y h) (Y s) y u.1 u.2 (Y V) (Y x) (Y<|by simpa [dr]using M) F (Y P)
def sx(w f:Ub)(l:N)(j:Uj)(V:I)(a:N)(s:NX)(b:Wn)(e:Ending):Prop :=
 Kb a l l w f/\((∃c,bk s b=.bad c/\c≠0/\e=Rt (Si S6 c))\/(∃d,bk s b=.ok d/\e=Rt (Si S6 0)/\∃g i h,Nq f l j V a d g i h))
theorem r9{s:NX}{b:Wn}{c:I}(k:Sw (Z w.1) w v)(d:m<=Z w.1)(h:bk s b=.bad c)(e:c≠0):sx w v n a t m s b (Rt (H c)):=⟨Kb.of_below<|k.mono d,bC ⟨c,h,e,R⟩⟩
theorem La(F:N)(g:Uj)(V:I)(k:N)(s:NX)(d:Uy)(f e b a:N)(w:Ub)(h:Nq w F g V k s d f e)(c:b<=3)(n:TT s<=100000)(j:Wc):
 Sk prog 190 #[Hn F,Nv b a] w λm u=>m=Rt (Sb (dx b a j s).isSome)/\Sw (Z w.1) w u:=by
 have v:=aJ h.2.len n;let⟨x,y⟩:=h.4;rw[Lv a j s c];let⟨B,l⟩:=s;cases l with
 |none=>exact yM F g V d 0 f e Sn U 0 0 b a w (Y h.1) O O c (Y λt=>Sz t vY)
 |some r=>
  let⟨C,q⟩:=r;let⟨L,K,z,M,o,p,e1,e2,i⟩:=h.2;let⟨⟨_,lG⟩,_,lH⟩:=i.3;dsimp only at e2;exact yM F g V d K f e So o (J q) p b a w (Y h.1) O O c (Y λ_=>⟨e1,O,O,by rw[e2,Nat.add_sub_cancel];exact i.5⟩)
theorem MG:n=0\/(if n=0 then S ((A m 0):Addr)else S (A m 1))=S (A m 1):=by
 by_cases h:n=0;·exact bC h
 exact aZ<|aM h
theorem MO(a:Wn):0<J (C3 a 32):=by unfold C3;rw[l8];omega
theorem Mu{F:Wn}(e:J F<=1000000):∃(g d:N)(c:Bool),(c=Sn/\fy F=U\/c=So/\fy F=S (g,d))/\∀(w:Ub)(b:N),w.ownsMap prog 9 fh b 15 (OQ 3)->(Instr.lookup 168 (.map (S b)) (Sg (K8 F)) So).run prog w=.ok (St #[Sa #[H g,H d],Sb c]) w:=by
 cases h:fy F with
 |none=>exact⟨0,0,Sn,bC ⟨R,R⟩,λw b a=>G (yX a e) (by rw[h];rfl)⟩
 |some f=>exact⟨f.1,f.2,So,aZ ⟨R,R⟩,λw b a=>G (yX a e) (by rw[h];rfl)⟩
theorem Mm{q:Ys}{a:Vw}{e:Ending}(h:sy n w q a e):∃v b,e=Rt (St #[v,Sb b])/\(bg q 0 a=Sn/\b=Sn\/bg q 0 a=So/\b=So/\Sx w n 2 1 v (J a) ((GI q 0 a).map (Si S6))):=by
 cases hok:bg q 0 a with
 |false=>exact⟨_,_,h.2 hok,bC ⟨R,R⟩⟩
 |true=>let⟨v,e1,e2⟩:=h.1 hok;exact⟨v,_,e1,aZ ⟨R,R,e2⟩⟩
theorem I7{u:NX}{ab:N}{b:Wn}(y:Q (Nq w n (.map (S m)) t k u p B g))(L:Q (m<Z w.1/\w.ownsMap prog 9 fh m 15 (OQ 3)))(O_:Q (Yy w))(P_:Q (Yb w))(hm:Q (ft w))(a3:Q (TT u<=100000))(Q_:Q (ab=J b))(ci:ab<=c)(X_:c<=9223372036854775807)(hn:ab<=100000)(ha:Q (∀M (y:M<J b),E w (A i<|j+M)=S (Si .u8 (b[M].toNat:I))))(hb:i<Z w.1):
 Sk prog 154 #[Hn n,Hm i j ab c] w λe d=>sx w d n (.map (S m)) t k u b e:=by
 let⟨cz,aa⟩:=y.4;have ao:=Y<|yA Q_ ci X_ O ha hm hb;have R_:Q (∀K_∈C3 b 32,J K_<=1000000):=Y (λK_ hf=>by have:=kh 32 b [] K_ hf;simp only[bO]at this;have:=Q_.o;omega);have T_:Q (J (C3 b 32)<=100001):=Y (by unfold C3;rw[l8];have:=List.count_le_length (a:=(32:UInt8)) (l:=b);have:=Q_.o;omega);cases hall:(C3 b 32).all Y3 with
 |false=>
  have HP:Q (bk u b=.bad 4):=Y (by unfold bk Bf;rw[hall];rfl);clear y L O_ P_ hm a3 Q_ ha R_ T_
  go_in
  go_wp2_with (go_at_call 152;refine ao.mono ?_;rintro e a⟨P,_,br⟩;rw[br hall];have o:=Y P;clear br P)
  go_ret;exact r9 o aa HP vY
 |true=>
  have aj:Q (Bf b=C3 b 32):=Y (by unfold Bf;rw[aU hall]);let⟨F,r,bi⟩:∃F r,C3 b 32=F::r:=by
   have:=MO b
   match hcs:C3 b 32,this with
   |F::r,_=>exact⟨F,r,R⟩
  rw[bi]at ao R_ T_ aj hall;have b4:=Y<|R_.o F (cI ..);let⟨q,a1⟩:∃q,J r=q:=⟨_,R⟩;have J_:=Y a1;have cr:q<=100000:=by have:=T_.o;rw[bA]at this;omega
  have S_:=Y<|LU F r;have ap:=Y λl f=>LO u F r l f;have bf:=Y<|zF F q;rw[a1]at S_ ap;have b7:Q (C0 (F::r)≠0->bk u b=.bad (C0 (F::r))):=Y (λa5=>by unfold bk;rw[aj.o,aM sP,aU a5]);have b8:Q (∀j,C0 (F::r)=0->je u (F::r)=j->bk u b=(match j with|none=>.bad 8|some s'=>.ok s')):=Y λj a5 e=>by unfold bk;rw[aj.o,aM sP,aM λy=>y a5,e];cases j<;>rfl
  have cd:n<Z w.1:=O;clear a1 bi T_;let⟨l,f,kn,bo,bp⟩:=Mu b4;have b5:=Y bo;have b6:Q (∀a h T,Sw (Z w.1) w a->E a (A h 0)=S T->mf a i T F->h<Z a.1->∃v c1,T=Hm i v (J F) c1/\∀W,Sw (Z a.1) a W->E W (A n 0)=S (.map (S m))/\E W (A h 0)=S (Hm i v (J F) c1)/\(convert 22 9<|Hm i v (J F) c1).run prog W=.ok (Sg (K8 F)) W/\(Instr.lookup 168 (.map (S m)) (Sg (K8 F)) So).run prog W=.ok (St #[Sa #[H l,H f],Sb kn]) W):=Y (λa h T k3 cg Z_ Y_=>by
   have N_:=k3.4;obtain⟨v,c1,rfl,cp,cf⟩:=Z_;refine⟨v,c1,R,λW U_=>⟨?_,G (U_.cell (p:=A h 0) Y_) cg,pN W i v c1 F (λb0 hj=>G (U_.cell (p:=A i<|v+b0) (by show i<_;omega)) (cf b0 hj)),bp W m ?_⟩⟩;·exact G (U_.cell (p:=A n 0) (by show n<_;omega)) (G (k3.cell (p:=A n 0) cd) y.1.1)
   let⟨es,ck,ce,rest⟩:=L.2
   exact⟨es,ck,G (G (U_.5 m<|oN L.1) (k3.5 m L.1)) ce,rest⟩)
  clear bo bp;have ad:Q (∀c d,c≠0->C0 (F::r)=c->Sw (Z w.1) w d->sx w d n (.map (S m)) t k u b (Rt (H c))):=Y (λc d X_ e x=>r9 x aa (by rw[b7.o (by rw[e];exact X_),e]) X_);have cs:(1:I)<=(q:I)+1:=O;have ct:(0:I)<(q:I)+1:=O;clear L hm Q_ ha
  go_in
  go_wp2_with (go_at_call 152;refine ao.mono ?_;rintro e a⟨P,bx,_⟩;obtain⟨h,x,Y_,hk,rfl,M_⟩:=bx hall;have ch:x=q+1:=(by rw[hk,bA,J_.o]);subst ch;let⟨v0,bv,bt⟩:=M_.2 0 sP;obtain⟨v,c1,rfl,bq⟩:=b6 a h v0 P bv bt M_.1;have C:=Y bq;have o:=Y P;have bb:=Y M_;have N_:=P.4;have cn:=M_.1;clear bx P M_ bv bt bq hk)
  refine wp_region_held_drew (S:=(λd=>E d (A n 0)=S (.map (S m))/\E d (A h 0)=S (Hm i v (J F) c1)/\(convert 22 9<|Hm i v (J F) c1).run prog d=.ok (Sg (K8 F)) d/\(Instr.lookup 168 (.map (S m)) (Sg (K8 F)) So).run prog d=.ok (St #[Sa #[H l,H f],Sb kn]) d)) vZ (C _ (Rf).drew) λhHeld=>?_;refine Xn 0 ?_;refine Xn 1 ?_;refine Xn 2 ?_;refine Xn 3 ?_;refine Xn 4 ?_;refine Xn 5 ?_;refine Xn 6 ?_;refine Xn 7 ?_;refine Xn 8 ?_;refine Xn 9 ?_;refine Xn 10 ?_;refine Xn 11 ?_;refine Xs 12 λbh hK=>?_;go_simp;refine hK _ _ (by first|exact C _ (Xb Rf _).drew|exact C _ ((Xb (Below.refl _ _) _).setCell aA _).drew|exact C _<|Xb (Below.refl _ _) _) λhHeld=>?_;clear hK;refine Xs 13 λbh hK=>?_;go_simp;refine hK _ _ (by first|exact C _ (Xb Rf _).drew|exact C _ ((Xb (Below.refl _ _) _).setCell aA _).drew|exact C _<|Xb (Below.refl _ _) _) λhHeld=>?_;clear hK;refine Xn 14 ?_;refine Yq ?_;clear hHeld;rcases b5.o with⟨rfl,hwo⟩|⟨rfl,hwo⟩
  .go_wp2;go_ret;exact ad 5 _ vY (by have:=S_.o;rw[hwo]at this;exact this) (o.trans<|(Xb Rf _).drew.mono N_)
  have a4:=bf.o;have s:=S_.o;rw[hwo]at a4 s;dsimp only at a4 s;let⟨_,_,_,a2,bm,bn⟩:=a4;have al:=Y s;have bd:=Y<|ap.o l f hwo;have a7:=Y bm;have a8:=Y bn;clear s bm bn bf S_ ap hwo;go_wp2_with fail
  go_at_call 188
  refine(LP a2 O a7 a8 (Y<|O_.keep (o.trans<|(Xb Rf _).drew.mono N_) O_.1) (Y<|P_.keep (o.trans<|(Xb Rf _).drew.mono N_) P_.1)).mono ?_;rintro e K⟨rfl,ar⟩;cases htk:dr l f q with
  |false=>
   go_wp2;go_ret;exact ad 6 _ vY (by have:=al.o;rw[htk]at this;exact this) (Xg (o.trans<|(Xb Rf _).drew.mono N_) ar)
  |true=>
   have aq:=Y htk;have HQ:Q (∀W,Sw (Z K.1) K W->Sw (Z a.1) a W/\E W (A (Z a.1) 0)=S (H l)/\E W (A (Z a.1) 1)=S (H f)):=Y (λW x=>by
    have x:=Xg ar x;have hs:Z a.1<Z (D a<|.cells #[H l,H f] 241).drew.1:=by show _<Z (D a _).1;rw[aO];omega
    exact⟨Xg (Xb Rf _).drew x,G (x.cell (p:=A (Z a.1) 0) hs) sP,G (x.cell (p:=A (Z a.1) 1) hs) sP⟩)
   let⟨az,q0,q1⟩:=HQ K<|Rf;have a6:=Y az;have cw:=az.4;clear ar az htk;go_wp2;refine Y7 (λd=>E d (A (Z a.1) 0)=S (H l)/\E d (A (Z a.1) 1)=S (H f)) λhHeld=>?_;refine Xn 0 ?_;refine Xn 1 ?_;refine Xn 2 ?_;refine Xs 3 λbh hK=>?_;go_simp;refine(IK i (Y J_.symm) O (by show i<Z K.1;have:=o.4;omega) aA (Y λM hi=>?_) (Y λK_ hf=>R_ K_<|cN _ hf)).mono ?_
   .have Y_:=bb.1;have cv:=J_.o;let⟨T,hv,Z_⟩:=bb.2 (M+1) (by rw[bA];omega);rw[fO]at Z_;exact⟨h,1,T,aM O,by show h<Z K.1;omega,by rw[Nat.add_comm 1 M];exact G (a6.cell (p:=A h<|M+1) Y_) hv,Z_.keep<|a6.5 i (oN o.4)⟩
   generalize (if q=0 then S ((A h 0):Addr)else S (A h 1))=fa;rintro e w6⟨V,bl⟩;have V:=Xg (Below.refl (Z K.1) K).drew V;obtain⟨v6,ok,rfl,z⟩:=Mm bl;have cb:=Y z;have b3:=Y V;let⟨a0,p0,p1⟩:=HQ w6 V;have af:=Y a0;have cx:=a0.4;have cq:=V.4;clear V a0 bl z;refine hK _ _ kP λhHeld=>?_;clear hK;refine Xn 4 ?_;refine Xn 5 ?_;refine Xn 6 ?_;refine Xn 7 ?_;refine Xn 8 ?_;refine Yq ?_;have s:=al.o;rw[aq.o]at s;obtain⟨z,rfl⟩|⟨z,rfl,ho6⟩:=cb.o
   .go_wp2;go_ret;exact ad 7 _ vY (by rw[z]at s;exact s) (Xg o af)
   have e0:C0 (F::r)=0:=by rw[z]at s;exact s
   have be:=Y<|bd.o aq z;have cc:Q (J (GI (FZ l f q) 0 r)=q):=Y (by rw[zj,J_.o]);rw[J_.o]at ho6;generalize GI (FZ l f q) 0 r=b1 at*;have ba:=Y (Zk ho6 (by show Z w.1<=Z K.1;have:=o.4;omega));have a9:=Y λj=>b8 j e0;clear ho6 z s e0 bd al;go_wp2_with fail
   go_at_call 190
   refine(La n _ t k u p B g l f _ (y.keep<|Xg o af) a2 a3 b1).mono ?_;rintro e w7⟨rfl,V_⟩;have I_:=Y<|Xg (Xg o af) V_;cases hso:dx l f b1 u with
   |none=>
    go_wp2;go_ret;exact r9 I_ aa (a9 _<|G be hso) vY
   |some s'=>
    let⟨_,r0,r1⟩:=HQ w7<|Xg b3 V_;have ca:=Y (Zl ba λi e=>V_.5 i (ba.lt i e).2);have bc:=Y hso;clear V_ hso;go_wp2_with (go_at_call 191;refine(MC y I_ a3 (O_.keep I_ O_.1) (P_.keep I_ P_.1) a2 a7 a8 ca cc.symm O aq bc).mono ?_;rintro e w8⟨rfl,ac⟩;have ac:=Y ac)
    go_ret;let⟨cj,cm,cl,h8,k8⟩:=ac.o;exact⟨(Kb.of_below<|I_.mono aa).trans k8,aZ ⟨s',a9 _<|G be bc,R,cj,cm,cl,h8⟩⟩
structure p9(w:Ub)(R_ M b:N)(la:Uy)(ls:Vw):Prop where
 map:M<R_/\w.ownsMap prog 9 fh M 15 (OQ 3)
 op:0 < R_/\Yy w
 ter:1 < R_/\Yb w
 max:5 < R_/\ft w
 txt:b<R_
 lines:oO w b R_ la ls
theorem p9.keep{w':Ub}{ls:Vw}(h:p9 w n m k p ls)(a:Sw n w w'):p9 w' n m k p ls:=by
 refine⟨⟨h.1.1,?_⟩,⟨h.2.1,h.2.2.keep a h.2.1⟩,⟨h.3.1,h.3.2.keep a h.3.1⟩,⟨h.4.1,aX h.4.2.1 a.4,?_⟩,h.5,h.6.keep a h.5⟩
 .let⟨c,b,d,rest⟩:=h.1.2;exact⟨c,b,G (a.5 m h.1.1) d,rest⟩
 let⟨f,e⟩:=h.4.2.2;exact⟨f,oB a e h.4.1⟩
structure sW(w:Ub)(R_ M b:N)(la:Uy)(ls:Vw)(V:I)(B0:N)(OUT:Bd)(k:N)(s:NX)(va:Uy)(vn vc:N)(wr:Ub):Prop where
 below:Sw R_ w wr
 env:p9 wr R_ M b la ls
 st:Nq wr R_ (.map (S M)) V B0 s va vn vc
 tot:TT s<=Tn (ls.take k)
 run:dy (ls.drop k) (k+1) s=OUT
def sM(w a:World)(i M:N)(V:I)(b n:N)(d:Bd)(e:Ending):Prop :=
 Sw i w a/\match d with
  |.bad c l=>e=Rt (T2 c l)
  |.ok s=>match s.2 with
   |some _=>e=Rt (T2 8 ((n+1:N):I))
   |none=>e=Rt .nilIface/\TT s<=100000/\∃f h g,Nq a i (.map (S M)) V b s f h g
theorem KD{a:Bd}{c:I}(d:Sw n w v)(h:a=.bad c g)(b:T=g):sM w v n m t k B a (Rt (.iface 102 (Sa #[H c,H T]))):=by
 subst h b;exact⟨d,R⟩
theorem JA(C M p:N)(u:Uy){ls:Vw}(V:I)(i:N)(f:Uy)(h g:N)(Y_:N)(e:Bd)(w:Ub)(K:Q (n=J ls))(ao:n<=100001)(L:Q (Tn ls<=100000))(O_:Q (sW w C M p u ls V i e 0 ⟨[],U⟩ f h g w)):
 Sk prog 101 #[Hn C,X u n Y_] w λj w'=>sM w w' C M V i n e j:=by
 go_in
 go_wp2
 go_loopw [10] (λt wr=>∃(k:N)(s:NX)(f:Uy)(h g:N),k<=n/\t=H k/\Q (sW w C M p u ls V i e k s f h g wr)) λt _=>n-(intOf t).toNat
 case atStart=>exact⟨0,_,_,_,_,aN,R,O_⟩
 obtain⟨k,s,f,h,g,hk,rfl,a⟩:=hrel;by_cases al:k<n
 .have o:k<J ls:=oN K.o
  let⟨W_,X_⟩:=a.3.4;have T:Tn (ls.take k)+J ls[k]<=Tn ls:=by
   rw[<-sr,<-X7 o];exact oJ ls<|k+1
  have S_:=L.o;have U_:=a.4;obtain⟨N_,aa,aq,rfl,hg,P_,o2,c2,rfl,q,B⟩:=a.2.6 k o;have y:=Y<|I7 (Y a.3) (Y ⟨oN a.2.1.1,a.2.1.2⟩) (Y a.2.2.2) (Y a.2.3.2) (Y a.2.4.2) (Y O) (Y R) q.1 q.2 O (Y B) (oN a.2.5);have z:Q (dy (ls.drop k) (k+1) s=match bk s ls[k]with|.bad c=>.bad c (k+1+1)|.ok b=>dy (ls.drop<|k+1) (k+1+1) b):=Y<|by rw[gZ o,dy];cases bk s ls[k]<;>rfl
  have K_:Q (∀b,bk s ls[k]=.ok b->TT b<=Tn (ls.take<|k+1)):=Y (λb ab=>by
   have:=sw ab;rw[X7 o,sr];omega)
  have aj:J ls[k]<=100000:=O;clear q B T S_ U_ W_ X_;generalize ls[k]=v at*;cases hlp:bk s v with
  |bad c=>
   have d:Q (e=.bad c (k+1+1)):=Y (by rw[<-a.5,z.o,hlp]);generalize J v=Z_ at*
   go_wp2_with (go_at_call 154;refine y.mono ?_;rintro j x⟨l,m⟩;obtain⟨rfl,P⟩:j=Rt (H c)/\c≠0:=(by
    obtain⟨c',q1,q2,q3⟩|⟨b,q1,_⟩:=m;·rw[hlp]at q1;cases q1;exact⟨q3,q2⟩
    rw[hlp]at q1;cases q1);have H_:=Y l;have P_:=(jJ.2 P);clear l m P)
   go_ret;exact KD (a.1.trans<|H_.below (dU a.3.4.1) aA aA) d (by push_cast;omega)
  |ok b=>
   have d:Q (dy (ls.drop<|k+1) (k+1+1) b=e):=Y (by rw[<-a.5,z.o,hlp]);have J_:=Y<|K_.o b hlp;generalize J v=Z_ at*
   go_wp2_with (go_at_call 154;refine y.mono ?_;rintro j x⟨l,m⟩;obtain⟨rfl,Q_⟩:j=Rt (H 0)/\∃f h g,Nq x C (.map (S M)) V i b f h g:=(by
    obtain⟨c',q1,q2,q3⟩|⟨s2,q1,q2,q3⟩:=m;·rw[hlp]at q1;cases q1
    rw[hlp]at q1;cases q1;exact⟨q2,q3⟩);let⟨ac,af,ad,F⟩:=Q_;have I_:Q (sW w C M p (S ⟨N_,aa,U⟩) ls V i e (k+1) b ac af ad x):=Y (by
    have W:=l.below (dU a.3.4.1) aA aA;exact⟨a.1.trans W,a.2.keep W,F,J_,d⟩);clear l m F)
   exact⟨⟨k+1,_,_,_,_,O,gM,I_⟩,SA⟩
 have C_:k=J ls:=oN K.o;have r:=a.5;rw[C_,List.drop_length,dy]at r;have d:=Y r.symm;have c3:=a.3.1.4;clear r C_;let⟨ap,L_⟩:=s;cases L_ with
 |some pi=>
  go_wp2;go_ret;exact⟨a.1,by rw[d.o];show _=Rt (T2 8 _);unfold T2;push_cast;rfl⟩
 |none=>
  go_wp2;go_ret;exact⟨a.1,by rw[d.o];exact⟨R,aJ (aJ a.4<|oJ _ _) L,_,_,_,a.3⟩⟩
end Go.Proofs.YtnggdhnpjfigjaaGreatDoor
