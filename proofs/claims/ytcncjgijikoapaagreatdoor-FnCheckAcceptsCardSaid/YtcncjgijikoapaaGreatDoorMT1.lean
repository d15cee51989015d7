import Derived.Test.YtcncjgijikoapaaGreatDoorML3
import Derived.Test.YtcncjgijikoapaaGreatDoorMB1
namespace Go.Proofs.YtcncjgijikoapaaGreatDoor
set_option maxHeartbeats 4000000
set_option maxRecDepth 100000
open _root_ renaming Array.size->Z,List.length->J,Nat->N,Int->I,rfl->R,Option.some->S,Bool.true->So,Bool.false->Sn,absurd->Sz
open Go renaming World.cell?->E,World.alloc->D,World.ownsRow->Sx,IntKind.i64->S6,Obj.cells->Sc,Ending.returned->Rt,RowKit.Below->Sw,Calls->Sk,RowKit.intOf->JB
open Value renaming slice->X,int->Si,bool->Sb,agg->Sa
open Go.RowKit Go.Proofs.Tryz
variable{n m k B g i c:N}{w v u:Ub}{a A_:Uj}{p:Uy}{l L:Wc}{x:Wi}{y:Wo}
theorem TH.start1(h:Sx w n 2 1 a (J l) (l.map<|Si S6))(b:∀g,a.ownBlock=S g->g=n):TH w n w a l:=⟨R,R,R,aA,λ_ _ _=>R,h,λg e=>bC<|b g e⟩
theorem TH.low{wr}(h:TH v n wr a l)(k:Sw n w v)(b:n<=Z v.1):Sw n w wr :=
 ⟨G h.1 k.1,G h.2 k.2,G h.3 k.3,aJ k.4 h.4,λq hq=>G (h.5 q O O) (k.5 q hq)⟩
theorem CA(h:Sx w n m k (Hl B g c) i y):Sx w B m k (Hl B g c) i y:=by
 obtain⟨f,h|⟨d,a,b,e1,j,e⟩⟩:=h;·exact Sz h.1 sP
 have e2:B=d:=by injection e1 with e1;injection e1 with e1;injection e1
 subst e2;exact⟨f,aZ ⟨B,a,b,e1,aA,e⟩⟩
theorem TH.rebase{wr}(h:TH w n wr (Hl m k c) l)(b:Sw (Z wr.1) wr v):TH v m v (Hl m k c) l :=
 TH.start1 (CA<|Zl h.6 λq e=>b.5 q (h.6.lt q e).2) (λq e=>by
  have a:m=q:=by simpa [Value.ownBlock]using e
  exact a.symm)
theorem TH.join{wr}(h:TH w n wr a l)(k:Sw (Z wr.1) wr v)(c:a.ownBlock=S m)(b:TH v m u A_ L):TH w n u A_ L:=by
 have f:=h.4;have g:=k.4;have d:=h.6.lt m c;refine⟨G b.1<|G k.1 h.1,G b.2<|G k.2 h.2,G b.3<|G k.3 h.3,oN b.4,λq q1 q2=>G (b.5 q O λe=>?_) (G (k.5 q O) (h.5 q q1 q2)),Zk b.6 d.1,λq e=>?_⟩
 .rcases h.7 m c with e2|e2;·exact q2<|G e e2
  omega
 obtain e2|e2:=b.7 q e;·rw[e2];exact h.7 m c
 exact aZ O
def QG(a b:Ub):Prop:=a=b
def Gs(w:Ub)(V:N)(b:Wi)(e:Ending)(a:Ub):Prop:=∃s:Bool,e=Rt (Sb s)/\(s=So↔∀v,v<V->¬N4 b v)/\Sw (Z w.1) w a
theorem BN(c)(ha:Q (Xp w k B p x))(L:Q (m=J x))(hB:B<=Z w.1)(i:Q (Jy n x)):
 Sk prog 45 #[Sa #[H n,X p m c]] w λf w'=>Gs w n x f w':=by
 have hn:m<=1000:=oP L.o i.1.2;have ge:0<m:=oP L.o i.1.1;have hV:=i.2;have bm:Sw (Z w.1) w (D w<|Sc #[H n,X p m c] 25):=Xb Rf _;have cx:E (D w<|Sc #[H n,X p m c] 25) (A (Z w.1) 0)=S (H n):=sP;have b0:Z w.1<Z (D w<|Sc #[H n,X p m c] 25).1:=sP;have ch:=Y<|uf n p m c x k B (D w<|Sc #[H n,X p m c] 25) (Y<|ha.keep (bm.mono hB)) L O i
 go_in
 go_wp2_with fail
 refine ch.mono ?_;rintro f w1⟨af,cf,rfl,a6,hF⟩;have dw:=Y hF.at_;have b1:=Y<|Xg bm a6;have g0:=oB a6 cx b0;have fz:=aX b0 a6.4;have dz:=Y g0;clear hF a6 bm cx b0 g0;go_wp2
 go_loopw [4] (λM wr=>∃v:N,v<=n/\M=H v/\Q (Sw (Z w1.1) w1 wr)/\Q (∀d,d < v->¬N4 x d)) λM _=>n-(JB M).toNat
 .exact⟨0,aN,R,Y<|Rf,Y λd h=>Sz h O⟩
 obtain⟨v,hv,rfl,W_,co⟩:=hrel;have k0:=oB W_ dz fz;have dk:=W_.4;by_cases ez:v<n;rotate_left
 .have HS:Q (∀d,d < n->¬N4 x d):=Y λd h=>co d O;go_wp2;go_ret;exact⟨So,R,⟨λ_=>HS,λ_=>R⟩,b1.trans<|W_.mono O⟩
 go_wp2_with fail
 have bn:Sw (Z wr.1) wr (D wr<|Sc #[H 0] 2):=Xb Rf _;have b8:Q (TH (D wr<|Sc #[H 0] 2) (Z wr.1) (D wr<|Sc #[H 0] 2) (Hl (Z wr.1) 1 1) (Xi [0])):=Y (TH.start1 (by
  have h:=eI (base:=Z wr.1) (e:=2) (size:=1) wr #[H 0] 1 aA SD R;exact h) (λet f=>by
  have e':Z wr.1=et:=by simpa [Value.ownBlock]using f
  exact e'.symm))
 have dn:=Y bn;have gl:Z wr.1<Z (D wr<|Sc #[H 0] 2).1:=sP;clear bn k0;generalize D wr _=wt at*;generalize wr=wo at*
 go_loopw [5,6] (λal M wr=>∃(q:N)(F:Wa),q<=J F/\M=H q/\Q (OI x v F q)/\Q (TH wt (Z wo.1) wr al<|Xi F)) λ_ M _=>m-(JB M).toNat
 .exact⟨0,[0],sP,R,Y Ci,b8⟩
 obtain⟨q,F,hq,rfl,y,u⟩:=hrel;have ci:Q (∀f4∈F,f4<m):=Y (by rw[L.o];exact y.lt i.1);have eu:=YS y.1 ci;let⟨aF,cF,eF,c6⟩:=Xk u.6;have br:J (Xi F)=J F:=by simp[Xi]
 let⟨o,f5,az,bp,_⟩:=Xm u.6 (by rw[br];exact eJ y.z);rw[br]at eF az;have eo:aF=S (A o 0):=by rw[eF]at az;injection az
 subst eo;clear az;subst eF;have ee:=Y c6;have f7:=bp.1;have ga:=bp.2;clear bp;have ck:=Y<|u.low dn O;let⟨lF,ad⟩:∃b,b=J F:=⟨_,R⟩;rw[<-ad]at hq eu;rw[<-ad];rw[<-ad]at u;have cj:=Y ad;clear c6 br ad;by_cases e6:q<lF;rotate_left
 .have cq:Q (∀d,d < v+1->¬N4 x d):=Y (λd gh=>by
   by_cases f:d=v
   .subst f;exact y.none<|oN cj.o
   exact co d O)
  have b4:=Y<|W_.trans (ck.mono dk);go_wp2_with fail
  refine⟨?_,SA⟩
  first
   |exact⟨v+1,O,gM,b4,cq⟩
   |((repeat apply gP);refine⟨?_,R⟩;exact⟨v+1,O,gM,b4,cq⟩)
 have T_:q<J F:=by rw[<-cj.o];exact e6
 have fq:q<J (Xi F):=by simp[Xi];exact T_
 let⟨bq,oq,eb,f6,a7⟩:=ee q fq;injection eb with eb;injection eb with ep er;subst ep er;rw[aV]at a7;have eq:(Xi F)[q]=((F[q]:N):I):=by simp[Xi]
 rw[eq]at a7;have fs:=ci _<|aH T_;have C:F[q]<J x:=oN L.o;have T:=Y<|W_.trans (ck.mono dk);obtain⟨bf,of,us,rfl,ev,df,A_⟩:=dw F[q] C;have K:=λj' S_=>oB T (df j' S_) ev
 have b5:=Y (A_.keep (λb' s _=>T.5 b' s) T.4);clear df;let⟨R_,c0,e0,i0⟩:=A_.1;let⟨V,c1,e1,i1⟩:=A_.2;let⟨a2,c2,e2,_⟩:=A_.3;let⟨a3,c3,e3,_⟩:=A_.4;let⟨a4,c4,e4,_⟩:=A_.5;let⟨a5,c5,e5,_⟩:=A_.6;have V_:=K 0 vY;have u1:=K 1 vY;have u2:=K 2 vY;have u3:=K 3 vY;have u4:=K 4 vY;have u5:=K 5 vY;simp only[fW]at V_;rw[e0]at V_;rw[e1]at u1;rw[e2]at u2;rw[e3]at u3;rw[e4]at u4;rw[e5]at u5;have bb:=Y e2;have bc:=Y e3;have bd:=Y e4;have be:=Y e5;have cd:=Y i0;have ce:=Y i1;have bi:=Y<|i.10 x[F[q]] (aH C);have aq:Q (Yo x F[q] v=Cg (x[F[q]].1.map Ph.dst) v):=Y (by unfold Yo;rw[aC C]);have ap:Q (C7 x F[q] v=NA x[F[q]] (XP x F[q]) v):=Y (by unfold C7;rw[aC C]);have ar:Q (x[F[q]].3.tg=Xi (X8 x F[q])):=Y (by rw[WM i.1 C,VS C]);have el:Q (∀z∈X8 x F[q],z<m):=Y (by rw[L.o];exact i.1.tg _ C);have bh:Q (J (XP x F[q])<=8000000):=Y (by unfold XP;rw[aC C];have s:=V8 i ((F[q]:N):I) x[F[q]].3.tg;have h2:=KJ x[F[q]].3;simp only;omega)
 let⟨t,ht⟩:∃t,t=F[q]:=⟨_,R⟩;let⟨P,hX⟩:∃P,P=x[F[q]]:=⟨_,R⟩;let⟨P_,hE⟩:∃P_,P_=XP x F[q]:=⟨_,R⟩;rw[<-hX,<-hE]at b5 ap;rw[<-hX]at V_ u1 u3 u4 u5 bc bd be cd ce bi aq ar;rw[<-hE]at u2 bb bh;rw[<-ht]at a7 fs V_ u1 u2 u3 u4 u5 aq ap ar el;have Q_:=Y ht;clear K A_ eq ht hX hE e0 e1 e2 e3 e4 e5 i0 i1;let⟨g,a8⟩:∃b,b=J P.3.tg:=⟨_,R⟩;let⟨W,a9⟩:∃b,b=J (P.1.map Ph.dst):=⟨_,R⟩;rw[<-a8]at V_;rw[<-a9]at u1;have gf:g<=2:=by rw[a8];exact KJ _
 have gg:W<=4000:=by rw[a9,bK];exact bi.2
 have cn:=Y a8;have eg:=Y a9;clear a8 a9;have du:=bh;generalize fi:J P_=n2 at u2 bb;clear fi;generalize fj:J (Jv P)=n3 at u3 bc;generalize fl:J (Z2 P)=n4 at u4 bd;generalize fn:J (Id P.3)=n5 at u5 be;clear fj fl fn;have I_:Sw (Z wr.1) wr (D wr<|Sc #[X R_ g c0,X V W c1,X a2 n2 c2,X a3 n3 c3,X a4 n4 c4,X a5 n5 c5] 194):=Xb Rf _;have J_:∀q' d,#[X R_ g c0,X V W c1,X a2 n2 c2,X a3 n3 c3,X a4 n4 c4,X a5 n5 c5][q']?=S d->E (D wr<|Sc #[X R_ g c0,X V W c1,X a2 n2 c2,X a3 n3 c3,X a4 n4 c4,X a5 n5 c5] 194) (A (Z wr.1) q')=S d:=λq' d h=>by rw[eC];exact h
 have f0:Z wr.1<Z (D wr<|Sc #[X R_ g c0,X V W c1,X a2 n2 c2,X a3 n3 c3,X a4 n4 c4,X a5 n5 c5] 194).1:=sP;go_wp2_with fail
 clear V_ u1 u2 u3 u4 u5 a7;generalize D wr _=O_ at*;have x0:Cl O_ (Z wr.1) 0 (X R_ g c0):=J_ 0 _ R;have x1:Cl O_ (Z wr.1) 1 (X V W c1):=J_ 1 _ R;have x2:Cl O_ (Z wr.1) 2 (X a2 n2 c2):=J_ 2 _ R;have x3:Cl O_ (Z wr.1) 3 (X a3 n3 c3):=J_ 3 _ R;have x4:Cl O_ (Z wr.1) 4 (X a4 n4 c4):=J_ 4 _ R;have x5:Cl O_ (Z wr.1) 5 (X a5 n5 c5):=J_ 5 _ R;have ds:=Y I_;have ca:=Y<|u.below I_;have ed:=Y<|(ce.at_.keep T).keep (I_.mono O);have ec:=Y<|(cd.at_.keep T).keep (I_.mono O);have b6:=Y (b5.keep (λb' s _=>I_.5 b' s) I_.4);have cb:=Y<|YF V c1 v (P.1.map Ph.dst) 0 (Z w1.1) O_ ed eg O;have b3:=Y<|uv v b6 (Y bi.1) du (X R_ g c0) (X V W c1) bb bc bd be;clear I_ J_;refine YU cb λw3 di=>?_;rw[di];clear di;cases hph:Cg (P.1.map Ph.dst) (v:I)with
 |true=>
  have l:Q (OI x v F<|q+1):=Y (y.go T_<|bC (by rw[<-Q_.o,aq.o];exact hph));clear hph;go_wp2_with fail
  refine⟨?_,SA⟩
  first
   |exact⟨q+1,F,O,gM,l,ca⟩
   |((repeat apply gP);refine⟨?_,R⟩;exact⟨q+1,F,O,gM,l,ca⟩)
 |false=>
  have cr:Q (Yo x t v=Sn):=Y (by rw[aq.o];exact hph);clear hph;go_wp2_with fail
  refine YU b3 λw4 ab=>?_;have ao:=Y<|Xg ds ab;have y0:=oB ab x0 f0;have ea:=Y<|ec.keep (ab.mono O);have gi:=ab.4;have c9:=Vg (v:=(v:I)) (fin:=Cg (Id P.3) (v:I)||Cg P_ v) P.2;have gd:NA P P_ v<=2:=c9;generalize fb:NA P P_ v=mt at*;have Z_:=Y ap.o;clear fb c9 ab x0 x1 x2 x3 x4 x5;have ey:mt=0\/mt=1\/mt=2:=O;obtain rfl|rfl|rfl:=ey
  .have fx:Z wr.1≠o:=O;have E_:=Y<|u.rebase ao;have en:=Y y0;have ek:Q (F[q]?=S t):=Y (by rw[aC T_,Q_.o]);have em:Q (Z w1.1<=o):=Y O;have cp:Q (J (X8 x t)=g):=Y (by rw[cn.o,ar.o];simp[Xi]);have ej:Q ((Hl o lF cF).ownBlock=S o):=Y R;go_wp2_with fail
   clear y0;generalize wr=wp at*
   go_loopw [5,9] (λal aj wr=>∃(b:N)(a:Wa),b<=g/\aj=H b/\Q (OI x v a q)/\Q (a[q]?=S t)/\Q (∀r (h:r<J (X8 x t)),r<b->(X8 x t)[r]∈a)/\Q (TH w4 o wr al<|Xi a)) λ_ aj _=>g-(JB aj).toNat
   .exact⟨0,F,aN,R,y,ek,Y λr _ h=>Sz h O,E_⟩
   clear E_;obtain⟨b,a,hm,rfl,l,aa,ba,j⟩:=hrel;have z0:=j.cell fx en;have bv:=(cV.1 aa).1;have Y_:Q (a[q]=t):=Y (cV.1 aa).2;by_cases c8:b<g;rotate_left
   .have G_:Q (OI x v a<|q+1):=Y (l.go bv (aZ ⟨by rw[Y_.o,Z_.o];decide,λ_ z U_=>by rw[Y_.o]at U_;obtain⟨r,hr,rfl⟩:=bR U_;exact ba r hr<|oN cp.o⟩))
    have HJ:=Y<|u.join ao ej j;go_wp2_with fail
    refine⟨?_,SA⟩
    first
     |exact⟨q+1,a,O,gM,G_,HJ⟩
     |((repeat apply gP);refine⟨?_,R⟩;exact⟨q+1,a,O,gM,G_,HJ⟩)
   have fe:b<J P.3.tg:=by rw[<-cn.o];exact c8
   have fc:b<J (X8 x t):=by rw[cp.o];exact c8
   obtain⟨bt,ot,rfl,⟨_,bn⟩,bo⟩:=ea b fe;have dc:P.3.tg[b]=(((X8 x t)[b]:N):I):=by simp only[ar.o,Xi,cM];rfl
   rw[dc]at bo;have zt:=j.cell (oN em.o) bo;let⟨aG,cG,eG,c7⟩:=Xk j.6;have da:J (Xi a)=J a:=by simp[Xi]
   have ef:=Y (aJ (YS l.1 λz U_=>by have:=l.lt i.1 z U_;have:=L.o;show z<m;omega) hn);let⟨e,bx⟩:∃z,z=(X8 x t)[b]:=⟨_,R⟩;rw[<-bx]at zt;have bl:=Y bx;let⟨l2,ac⟩:∃z,z=J (Xi a):=⟨_,R⟩;rw[<-ac]at eG;subst eG;have gb:l2<=1000:=by rw[ac,da];exact ef
   have cc:=Y<|YF aG cG e (Xi a) o (Z wr.1) wr (Y c7) (Y ac) O;have cg:=Y ac;clear bo dc c7 da bx ac;go_wp2_with fail
   refine YU cc λw5 dj=>?_;rw[dj];clear dj;cases hh:Cg (Xi a) (e:I)with
   |true=>
    have cl:Q (∀r (h:r<J (X8 x t)),r<b+1->(X8 x t)[r]∈a):=Y (λr hr fr=>by
     by_cases f:r=b
     .subst f;rw[<-bl.o];have s:=XD.1 hh;let⟨z,U_,e2⟩:=aY.1 s;have:z=e:=by have e3:(z:I)=e:=e2;omega
      rw[<-this];exact U_
     exact ba r hr O)
    clear hh;go_wp2_with fail
    refine⟨?_,SA⟩
    first
     |exact⟨b+1,a,O,gM,l,aa,cl,j⟩
     |((repeat apply gP);refine⟨?_,R⟩;exact⟨b+1,a,O,gM,l,aa,cl,j⟩)
   |false=>
    have ei:Q (e∉a):=Y (λh=>by have s:Cg (Xi a) e=So:=XD.2<|aY.2 ⟨e,h,R⟩;rw[hh]at s;cases s)
    have cs:=Y (l.push bv (by rw[Y_.o];exact cr) (by rw[Y_.o];exact Z_) (by rw[Y_.o,bl.o];exact aH fc) ei);have cv:Q ((a++[e])[q]?=S t):=Y (by rw[dL bv];exact aa);have cm:Q (∀r (h:r<J (X8 x t)),r<b+1->(X8 x t)[r]∈a++[e]):=Y (λr hr fr=>by
     by_cases f:r=b
     .subst f;rw[<-bl.o];simp
     exact dD _<|ba r hr O)
    clear hh;go_wp2_with (at_builtin;refine YC RH j.6 ?_ (oN cg.o) (oN j.4))
    intro u9 w9 db cz _ cw;have d0:=Y ((j.alloc _).push (x:=(e:I)) cz db (by rw[aO];exact cw));have b7:=Y (by have h:=d0.o;rw[show Xi a++[(e:I)]=Xi (a++[e]) by simp[Xi]]at h;exact h);clear db cz cw z0 zt;go_wp2_with fail
    refine⟨?_,SA⟩
    first
     |exact⟨b+1,a++[e],O,gM,cs,cv,cm,b7⟩
     |((repeat apply gP);refine⟨?_,R⟩;exact⟨b+1,a++[e],O,gM,cs,cv,cm,b7⟩)
  .have dl:=Y (y.hit T_ (by rw[<-Q_.o];exact cr) (by rw[<-Q_.o];exact Z_));go_wp2;go_ret;exact⟨Sn,R,⟨λh=>(by cases h),λh=>Sz dl<|h v ez⟩,b1.trans<|(T.trans<|ao.mono (oN T.4)).mono O⟩
  have G_:=Y (y.go T_<|aZ ⟨by rw[<-Q_.o,Z_.o];decide,λh=>by rw[<-Q_.o,Z_.o]at h;cases h⟩);have E_:=Y<|u.below ao;go_wp2_with fail
  generalize wr=wp at*
  go_loopw [5,9] (λal aj wr=>al=Hl o lF cF/\aj=H 0/\Q (QG wr w4)) λ_ _ _=>0
  .exact⟨R,R,Y R⟩
  obtain⟨rfl,rfl,ct⟩:=hrel;have es:wr=w4:=ct.o;clear ct;subst es;by_cases h0:0<g
  .go_wp2_with fail
   refine⟨?_,SA⟩
   first
    |exact⟨q+1,F,O,gM,G_,E_⟩
    |((repeat apply gP);refine⟨?_,R⟩;exact⟨q+1,F,O,gM,G_,E_⟩)
  go_wp2_with fail
  refine⟨?_,SA⟩
  first
   |exact⟨q+1,F,O,gM,G_,E_⟩
   |((repeat apply gP);refine⟨?_,R⟩;exact⟨q+1,F,O,gM,G_,E_⟩)
theorem KT(v c)(ha:Q (Xp w m k p x))(d:Q (n=J x))(hs:Q (J x+Xx x<=1048576))(K:k<=Z w.1):
 Sk prog 17 #[Sa #[H v,X p n c]] w λj C=>j=Rt (H<|Ft v x)/\Sw (Z w.1) w C:=by
 have e:=Y λW (a:Sw (Z w.1) w W)=>Tr v p n c x m k W (Y<|ha.keep (a.mono K)) d hs (oN a.4);have af:=Y<|WY ⟨v,x⟩;rw[<-af.o]at e;have g:Sw (Z w.1) w (D w<|Sc #[H v,X p n c] 25):=Xb Rf _;have M:E (D w<|Sc #[H v,X p n c] 25) (A (Z w.1) 0)=S (H v):=sP;have P:E (D w<|Sc #[H v,X p n c] 25) (A (Z w.1) 1)=S (X p n c):=sP;have q:Z w.1<Z (D w<|Sc #[H v,X p n c] 25).1:=sP;cases hv:XJ ⟨v,x⟩with
 |false=>
  rw[hv]at e;rw[Uh hv];clear hv
  go_in
  go_wp2_with fail
  refine YU (e _ g) λB b=>?_;have t:=Y<|Xg g b;clear b e g M P q;go_wp2;go_ret;exact⟨R,t⟩
 |true=>
  rw[hv]at e;have T:=Y hv;have Z_:0<=v:=by simp only[XJ,Y6,bY,bD]at hv;omega
  obtain⟨V,rfl⟩:=bX Z_;have f:=Y<|XH hv;have hn:n<=1000:=oP d.o f.1.2;have ar:0<n:=oP d.o f.1.1;generalize aa:Ft V x=L;have G_:=Y aa;clear hv Z_ aa;have ac:=Y λW (a:Sw (Z w.1) w W)=>qt V c (-1) (Y<|ha.keep (a.mono K)) d O O (oN a.4) (Y (d.o▸f.1.3));have ad:=Y λW (a:Sw (Z w.1) w W)=>BN c (Y<|ha.keep (a.mono K)) d (oN a.4) f
  go_in
  go_wp2_with fail
  refine YU (e _ g) λB b=>?_;have t:=Y<|Xg g b;have Q_:=oB b M q;have R_:=oB b P q;have ab:=aX q b.4;clear b g M P q e;go_wp2_with fail
  refine Y7 (λC=>E C (A (Z w.1) 0)=S (H V)/\E C (A (Z w.1) 1)=S (X p n c)) λig=>?_;refine Xn 0 ?_;refine Xn 3 ?_;refine Xn 4 ?_;refine Xn 5 ?_;refine Xs 1 λap hK=>?_;go_simp;refine(ac B.drew t.drew).mono ?_;rintro j w2⟨v2,F,rfl,h,K_,X_,T_⟩;have y:Sw (Z B.1) B w2:=⟨h.1,h.2,h.3,h.4,h.5⟩;rw[show Je F=(Xi F).map (Si S6) by simp[Je,Xi]]at K_;let⟨aF,cF,e2,_⟩:=Xk K_;have U_:J (Xi F)=J F:=by simp[Xi]
  have D_:=Y (uQ f.1 X_ λs=>(T_ s).trans (rf vY));rw[U_]at e2;subst e2;let⟨r,z⟩:∃al,al=J F:=⟨_,R⟩;rw[<-z];have N_:Q (r=n↔Jq x):=Y (by rw[z,d.o];exact D_.2);have aq:r<=n:=by rw[z,d.o];exact D_.1
  have C_:=Y<|Xg t y;have k0:=oB y Q_ ab;have k1:=oB y R_ ab;clear y h K_ X_ T_ U_ z D_ Q_ R_;refine hK _ _ ⟨k0,k1⟩ λig=>?_;clear hK;refine Xn 2 ?_;by_cases o:r=n
  .have M_:=Y<|N_.1 o;have aj:((r:I) != (n:I))=Sn:=by simp[o]
   clear o;refine Xn 6 ?_;refine Yq ?_;clear ig;go_wp2_with fail
   refine(ad w2 C_).mono ?_;rintro j w3⟨ao,rfl,Y_,S_⟩;have O_:=Y<|Xg C_ S_;have P_:=Y Y_;clear Y_ S_;cases ao with
   |true=>
    have i:Q (L=0):=Y (G_.o▸uP T M_ (λl=>by let⟨s,u⟩:=l;exact P_.1 R s (wH f u) u))
    go_wp2;go_ret;exact⟨by rw[i.o];rfl,O_⟩
   |false=>
    have i:Q (L=11):=Y (G_.o▸qg T M_ (dQ λl=>by have:=P_.2 λs _ u=>l ⟨s,u⟩;cases this))
    go_wp2;go_ret;exact⟨by rw[i.o];rfl,O_⟩
  have i:Q (L=10):=Y (G_.o▸t9 T λl=>o<|N_.2 l);have aj:((r:I) != (n:I))=So:=SB
  clear o;refine Xn 6 ?_;refine Yq ?_;clear ig;go_wp2;go_ret;exact⟨by rw[i.o];rfl,C_⟩
end Go.Proofs.YtcncjgijikoapaaGreatDoor
