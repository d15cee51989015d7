import Derived.Test.YtcfdhbigppockaaGreatDoorML3a
import Derived.Test.YtcfdhbigppockaaGreatDoorMB1
import Derived.Test.YtcfdhbigppockaaGreatDoorAL1
import Derived.Test.YtcfdhbigppockaaGreatDoorW18b
namespace Go.Proofs.YtcfdhbigppockaaGreatDoor
set_option maxHeartbeats 4000000
set_option maxRecDepth 100000
open Go.RowKit Go.Proofs.Tryz
variable{n m k B g i c:Nat}{w v u:Ub}{a A:Uj}{p:Uy}{l L:Wc}{x:Wi}{y:Wo}
theorem TH.start1(h:w.ownsRow n 2 1 a l.length (l.map<|Value.int .i64))(b:∀g,a.ownBlock=some g->g=n):TH w n w a l:=⟨rfl,rfl,rfl,aA,λ_ _ _=>rfl,h,λg e=>bC<|b g e⟩
theorem TH.low{wr:Ub}(h:TH v n wr a l)(k:Below n w v)(b:n<=v.1.size):Below n w wr :=
 ⟨h.1.trans k.1,h.2.trans k.2,h.3.trans k.3,aJ k.4 h.4,λq hq=>(h.5 q oM oM).trans (k.5 q hq)⟩
theorem CA(h:w.ownsRow n m k (Hl B g c) i y):w.ownsRow B m k (Hl B g c) i y:=by
 obtain⟨f,h|⟨d,a,b,e1,j,e⟩⟩:=h;·exact absurd h.1 sP
 have e2:B=d:=by
  injection e1 with e1;injection e1 with e1;injection e1
 subst e2;exact⟨f,aZ ⟨B,a,b,e1,aA,e⟩⟩
theorem TH.rebase{wr:Ub}(h:TH w n wr (Hl m k c) l)(b:Below wr.1.size wr v):TH v m v (Hl m k c) l :=
 TH.start1 (CA<|Zl h.6 λq e=>b.5 q (h.6.lt q e).2) (λq e=>by
  have a:m=q:=by simpa [Value.ownBlock]using e
  exact a.symm)
theorem TH.join{wr:Ub}(h:TH w n wr a l)(k:Below wr.1.size wr v)(c:a.ownBlock=some m)(b:TH v m u A L):TH w n u A L:=by
 have f:=h.4;have g:=k.4;have d:=h.6.lt m c;refine⟨b.1.trans<|k.1.trans h.1,b.2.trans<|k.2.trans h.2,b.3.trans<|k.3.trans h.3,oN b.4,λq q1 q2=>(b.5 q oM λe=>?_).trans ((k.5 q oM).trans (h.5 q q1 q2)),Zk b.6 d.1,λq e=>?_⟩
 .rcases h.7 m c with e2|e2;·exact q2<|e.trans e2
  omega
 obtain e2|e2:=b.7 q e;·rw[e2];exact h.7 m c
 exact aZ oM
def QG(a b:Ub):Prop:=a=b
def Gs(w:Ub)(V:Nat)(b:Wi)(e:Ending)(a:Ub):Prop:=∃s:Bool,e=.returned (.bool s)/\(s=true↔∀v,v<V->¬N4 b v)/\Below w.1.size w a
theorem BN(c:Nat)(ha:Hs (Xp w k B p x))(L:Hs (m=x.length))(hB:B<=w.1.size)(i:Hs (Jy n x)):
 Calls prog 72 #[.agg #[Hp n,.slice p m c]] w λf w'=>Gs w n x f w':=by
 let⟨m0,e7,e8,e9,fa⟩:=Xq RH;have hn:m<=1000:=oP L.o i.1.2;have ge:0<m:=oP L.o i.1.1;have hV:=i.2;have bm:Below w.1.size w (w.alloc<|.cells #[Hp n,.slice p m c] 37):=Xb (Below.refl _ _) _;have cx:(w.alloc<|.cells #[Hp n,.slice p m c] 37).cell? (Hk w.1.size 0)=some (Hp n):=sP;have b0:w.1.size<(w.alloc<|.cells #[Hp n,.slice p m c] 37).1.size:=sP;have ch:=Xa<|uf n p m c x k B (w.alloc<|.cells #[Hp n,.slice p m c] 37) (Xa<|ha.keep (bm.mono hB)) L oM i
 go_in
 go_wp2_with fail
 refine ch.mono ?_;rintro f w1⟨af,cf,rfl,a6,hF⟩;have dw:=Xa hF.at_;have b1:=Xa<|Xg bm a6;have g0:=oB a6 cx b0;have fz:=aX b0 a6.4;have dz:=Xa g0;clear hF a6 bm cx b0 ch g0;go_wp2
 go_loopw [4] (λM wr=>∃v:Nat,v<=n/\M=Hp v/\Hs (Below w1.1.size w1 wr)/\Hs (∀d,d < v->¬N4 x d)) λM _=>n-(intOf M).toNat
 case atStart=>exact⟨0,aN,rfl,Xa<|Below.refl _ _,Xa λd h=>absurd h oM⟩
 obtain⟨v,hv,rfl,W,co⟩:=hrel;have k0:=oB W dz fz;have dk:=W.4;by_cases ez:v<n
 .go_wp2_with fail
  have bn:Below wr.1.size wr (wr.alloc<|.cells #[Hp 0] 2):=Xb (Below.refl _ _) _;have b8:Hs (TH (wr.alloc<|.cells #[Hp 0] 2) wr.1.size (wr.alloc<|.cells #[Hp 0] 2) (Hl wr.1.size 1 1) (Xi [0])):=Xa (TH.start1 (by
   have h:=eI (base:=wr.1.size) (e:=2) (size:=1) wr #[Hp 0] 1 aA (by unfold maxLen;omega) rfl;exact h) (λet f=>by
   have e':wr.1.size=et:=by simpa [Value.ownBlock]using f
   exact e'.symm))
  have dn:=Xa bn;have gl:wr.1.size<(wr.alloc<|.cells #[Hp 0] 2).1.size:=sP;clear bn k0;generalize wr.alloc _=wt at*;generalize wr=wo at*
  go_loopw [5,6] (λal M wr=>∃(q:Nat)(F:Wa),q<=F.length/\M=Hp q/\Hs (OI x v F q)/\Hs (TH wt wo.1.size wr al<|Xi F)) λ_ M _=>m-(intOf M).toNat
  case atStart=>exact⟨0,[0],sP,rfl,Xa Ci,b8⟩
  clear b8;obtain⟨q,F,hq,rfl,y,u⟩:=hrel;have ci:Hs (∀f4∈F,f4<m):=Xa (by rw[L.o];exact y.lt i.1);have eu:=YS y.1 ci;let⟨aF,cF,eF,c6⟩:=Xk u.6;have br:(Xi F).length=F.length:=by simp[Xi]
  let⟨o,f5,az,bp,_⟩:=Xm u.6 (by rw[br];exact eJ y.z);rw[br]at eF az;have eo:aF=some (Hk o 0):=by
   rw[eF]at az;injection az
  subst eo;clear az;subst eF;have ee:=Xa c6;have f7:=bp.1;have ga:=bp.2;clear bp;have ck:=Xa<|u.low dn oM;let⟨lF,ad⟩:∃b,b=F.length:=⟨_,rfl⟩;rw[<-ad]at hq eu;rw[<-ad];rw[<-ad]at u;have cj:=Xa ad;clear c6 br ad;by_cases e6:q<lF
  .have T:q<F.length:=by rw[<-cj.o];exact e6
   have fq:q<(Xi F).length:=by simp[Xi];exact T
   let⟨bq,oq,eb,f6,a7⟩:=ee q fq;injection eb with eb;injection eb with ep er;subst ep er;rw[aV]at a7;have eq:(Xi F)[q]=((F[q]:Nat):Int):=by simp[Xi]
   rw[eq]at a7;have fs:=ci _<|aH T;have C:F[q]<x.length:=oN L.o;have D:=Xa<|W.trans (ck.mono dk);obtain⟨bf,of,us,rfl,ev,df,A⟩:=dw F[q] C;have K:=λj' S=>oB D (df j' S) ev
   have b5:=Xa (A.keep (λb' s _=>D.5 b' s) D.4);clear df;let⟨R,c0,e0,i0⟩:=A.1;let⟨H,c1,e1,i1⟩:=A.2;let⟨a2,c2,e2,_⟩:=A.3;let⟨a3,c3,e3,_⟩:=A.4;let⟨a4,c4,e4,_⟩:=A.5;let⟨a5,c5,e5,_⟩:=A.6;have V:=K 0 vY;have u1:=K 1 vY;have u2:=K 2 vY;have u3:=K 3 vY;have u4:=K 4 vY;have u5:=K 5 vY;simp only[fW]at V;rw[e0]at V;rw[e1]at u1;rw[e2]at u2;rw[e3]at u3;rw[e4]at u4;rw[e5]at u5;have bb:=Xa e2;have bc:=Xa e3;have bd:=Xa e4;have be:=Xa e5;have cd:=Xa i0;have ce:=Xa i1;have bi:=Xa<|i.10 x[F[q]] (aH C);have aq:Hs (Yo x F[q] v=Cg (x[F[q]].1.map Ph.dst) (v:Int)):=Xa (by unfold Yo;rw[aC C]);have ap:Hs (C7 x F[q] v=NA x[F[q]] (XP x F[q]) (v:Int)):=Xa (by unfold C7;rw[aC C]);have ar:Hs (x[F[q]].3.tg=Xi (X8 x F[q])):=Xa (by rw[WM i.1 C,VS C]);have el:Hs (∀z∈X8 x F[q],z<m):=Xa (by rw[L.o];exact i.1.tg _ C);have bh:Hs ((XP x F[q]).length<=8000000):=Xa (by
    unfold XP;rw[aC C];have s:=V8 i ((F[q]:Nat):Int) x[F[q]].3.tg;have h2:=KJ x[F[q]].3;simp only;omega)
   let⟨t,ht⟩:∃t,t=F[q]:=⟨_,rfl⟩;let⟨X,hX⟩:∃X,X=x[F[q]]:=⟨_,rfl⟩;let⟨P,hE⟩:∃P,P=XP x F[q]:=⟨_,rfl⟩;rw[<-hX,<-hE]at b5 ap;rw[<-hX]at V u1 u3 u4 u5 bc bd be cd ce bi aq ar;rw[<-hE]at u2 bb bh;rw[<-ht]at a7 fs V u1 u2 u3 u4 u5 aq ap ar el;have Q:=Xa ht;clear K A eq ht hX hE e0 e1 e2 e3 e4 e5 i0 i1;let⟨g,a8⟩:∃b,b=X.3.tg.length:=⟨_,rfl⟩;let⟨N,a9⟩:∃b,b=(X.1.map Ph.dst).length:=⟨_,rfl⟩;rw[<-a8]at V;rw[<-a9]at u1;have gf:g<=2:=by rw[a8];exact KJ _
   have gg:N<=4000:=by rw[a9,bK];exact bi.2
   have cn:=Xa a8;have eg:=Xa a9;clear a8 a9;have du:=bh;clear bh;generalize fi:P.length=n2 at u2 bb;clear fi;generalize fj:(Jv X).length=n3 at u3 bc;generalize fl:(Z2 X).length=n4 at u4 bd;generalize fn:(Id X.3).length=n5 at u5 be;clear fj fl fn;have I:Below wr.1.size wr (wr.alloc<|.cells #[.slice R g c0,.slice H N c1,.slice a2 n2 c2,.slice a3 n3 c3,.slice a4 n4 c4,.slice a5 n5 c5] 138):=Xb (Below.refl _ _) _;have J:∀q' d,#[Value.slice R g c0,.slice H N c1,.slice a2 n2 c2,.slice a3 n3 c3,.slice a4 n4 c4,.slice a5 n5 c5][q']?=some d->(wr.alloc<|.cells #[.slice R g c0,.slice H N c1,.slice a2 n2 c2,.slice a3 n3 c3,.slice a4 n4 c4,.slice a5 n5 c5] 138).cell? (Hk wr.1.size q')=some d:=λq' d h=>by
    rw[eC];exact h
   have f0:wr.1.size<(wr.alloc<|.cells #[.slice R g c0,.slice H N c1,.slice a2 n2 c2,.slice a3 n3 c3,.slice a4 n4 c4,.slice a5 n5 c5] 138).1.size:=sP;go_wp2_with fail
   clear V u1 u2 u3 u4 u5 a7;generalize wr.alloc _=O at*;have x0:Cl O wr.1.size 0 (.slice R g c0):=J 0 _ rfl;have x1:Cl O wr.1.size 1 (.slice H N c1):=J 1 _ rfl;have x2:Cl O wr.1.size 2 (.slice a2 n2 c2):=J 2 _ rfl;have x3:Cl O wr.1.size 3 (.slice a3 n3 c3):=J 3 _ rfl;have x4:Cl O wr.1.size 4 (.slice a4 n4 c4):=J 4 _ rfl;have x5:Cl O wr.1.size 5 (.slice a5 n5 c5):=J 5 _ rfl;have ds:=Xa I;have ca:=Xa<|u.below I;have ed:=Xa<|(ce.at_.keep D).keep (I.mono oM);have ec:=Xa<|(cd.at_.keep D).keep (I.mono oM);have b6:=Xa (b5.keep (λb' s _=>I.5 b' s) I.4);have cb:=Xa<|YF H c1 (v:Int) (X.1.map Ph.dst) 0 w1.1.size O ed eg oM;have b3:=Xa<|uv (v:Int) b6 (Xa bi.1) du (.slice R g c0) (.slice H N c1) bb bc bd be;clear I J;refine cb.mono ?_;rintro f w3⟨rfl,di⟩;rw[di];clear di cb;cases hph:Cg (X.1.map Ph.dst) (v:Int)with
   |true=>
    have l:Hs (OI x v F<|q+1):=Xa (y.go T<|bC (by rw[<-Q.o,aq.o];exact hph));clear hph;go_wp2_with fail
    refine⟨?_,by simp[intOf];omega⟩
    first
     |exact⟨q+1,F,oM,gM,l,ca⟩
     |((repeat apply gP);refine⟨?_,rfl⟩;exact⟨q+1,F,oM,gM,l,ca⟩)
   |false=>
    have cr:Hs (Yo x t v=false):=Xa (by rw[aq.o];exact hph);clear hph;go_wp2_with fail
    refine b3.mono ?_;rintro f w4⟨rfl,ab⟩;have ao:=Xa<|Xg ds ab;have y0:=oB ab x0 f0;have ea:=Xa<|ec.keep (ab.mono oM);have gi:=ab.4;have c9:=Vg (v:=(v:Int)) (fin:=Cg (Id X.3) (v:Int)||Cg P (v:Int)) X.2;have gd:NA X P (v:Int)<=2:=c9;generalize fb:NA X P (v:Int)=mt at*;have Z:=Xa ap.o;clear fb ap c9 ab x0 x1 x2 x3 x4 x5 b3 b6;have ey:mt=0\/mt=1\/mt=2:=oM;obtain rfl|rfl|rfl:=ey
    .have fx:wr.1.size≠o:=oM;have E:=Xa<|u.rebase ao;have en:=Xa y0;have ek:Hs (F[q]?=some t):=Xa (by rw[aC T,Q.o]);have em:Hs (w1.1.size<=o):=Xa oM;have cp:Hs ((X8 x t).length=g):=Xa (by rw[cn.o,ar.o];simp[Xi]);have ej:Hs ((Hl o lF cF).ownBlock=some o):=Xa rfl;go_wp2_with fail
     clear y0;generalize wr=wp at*
     go_loopw [5,9] (λal aj wr=>∃(b:Nat)(a:Wa),b<=g/\aj=Hp b/\Hs (OI x v a q)/\Hs (a[q]?=some t)/\Hs (∀r (h:r<(X8 x t).length),r<b->(X8 x t)[r]∈a)/\Hs (TH w4 o wr al<|Xi a)) λ_ aj _=>g-(intOf aj).toNat
     case atStart=>exact⟨0,F,aN,rfl,y,ek,Xa λr _ h=>absurd h oM,E⟩
     clear E;obtain⟨b,a,hm,rfl,l,aa,ba,j⟩:=hrel;have z0:=j.cell fx en;have bv:=(cV.1 aa).1;have Y:Hs (a[q]=t):=Xa (cV.1 aa).2;by_cases c8:b<g
     .have fe:b<X.3.tg.length:=by rw[<-cn.o];exact c8
      have fc:b<(X8 x t).length:=by rw[cp.o];exact c8
      obtain⟨bt,ot,rfl,⟨_,bn⟩,bo⟩:=ea b fe;have dc:X.3.tg[b]=(((X8 x t)[b]:Nat):Int):=by simp only[ar.o,Xi,cM];rfl
      rw[dc]at bo;have zt:=j.cell (oN em.o) bo;let⟨aG,cG,eG,c7⟩:=Xk j.6;have da:(Xi a).length=a.length:=by simp[Xi]
      have ef:=Xa (aJ (YS l.1 λz U=>by have:=l.lt i.1 z U;have:=L.o;show z<m;omega) hn);let⟨e,bx⟩:∃z,z=(X8 x t)[b]:=⟨_,rfl⟩;rw[<-bx]at zt;have bl:=Xa bx;let⟨l2,ac⟩:∃z,z=(Xi a).length:=⟨_,rfl⟩;rw[<-ac]at eG;subst eG;have gb:l2<=1000:=by rw[ac,da];exact ef
      have cc:=Xa<|YF aG cG (e:Int) (Xi a) o wr.1.size wr (Xa c7) (Xa ac) oM;have cg:=Xa ac;clear bo dc c7 da bx ac;go_wp2_with fail
      refine cc.mono ?_;rintro f w5⟨rfl,dj⟩;rw[dj];clear dj cc;cases hh:Cg (Xi a) (e:Int)with
      |true=>
       have cl:Hs (∀r (h:r<(X8 x t).length),r<b+1->(X8 x t)[r]∈a):=Xa (λr hr fr=>by
        by_cases f:r=b
        .subst f;rw[<-bl.o];have s:=XD.1 hh;let⟨z,U,e2⟩:=aY.1 s;have:z=e:=by have e3:(z:Int)=(e:Int):=e2;omega
         rw[<-this];exact U
        exact ba r hr oM)
       clear hh;go_wp2_with fail
       refine⟨?_,by simp[intOf];omega⟩
       first
        |exact⟨b+1,a,oM,gM,l,aa,cl,j⟩
        |((repeat apply gP);refine⟨?_,rfl⟩;exact⟨b+1,a,oM,gM,l,aa,cl,j⟩)
      |false=>
       have ei:Hs (e∉a):=Xa (λh=>by
        have s:Cg (Xi a) (e:Int)=true:=XD.2<|aY.2 ⟨e,h,rfl⟩;rw[hh]at s;cases s)
       have cs:=Xa (l.push bv (by rw[Y.o];exact cr) (by rw[Y.o];exact Z) (by rw[Y.o,bl.o];exact aH fc) ei);have cv:Hs ((a++[e])[q]?=some t):=Xa (by rw[dL bv];exact aa);have cm:Hs (∀r (h:r<(X8 x t).length),r<b+1->(X8 x t)[r]∈a++[e]):=Xa (λr hr fr=>by
        by_cases f:r=b
        .subst f;rw[<-bl.o];simp
        exact dD _<|ba r hr oM)
       clear hh;go_wp2_with (at_builtin;refine bT _ rfl _ _ 41 rfl o 2 m0 (Hp 0) 1 8 underlying41 e7 e8 e9 fa rfl vY _ _ _ rfl (j.6.alloc _) (Hk wr.1.size 0) 1 1 [Hp e] rfl rfl ?c1 ?c2 ?c3 ?c4 ?c5 ?_)
       case c1=>
        intro j' u' S
        match j',S with
        |0,S=>simp at S;subst S;simp[Addr.add]
       case c2=>intro u' dd;simp at dd;subst dd;rfl
       case c3=>have:=cg.o;unfold maxLen;omega
       case c4=>have:=cg.o;omega
       case c5=>have:=j.4;simp;omega
       intro u9 w9 db cz _ cw;have d0:=Xa ((j.alloc _).push (x:=(e:Int)) cz db (by rw[aO];exact cw));have b7:=Xa (by have h:=d0.o;rw[show Xi a++[(e:Int)]=Xi (a++[e]) by simp[Xi]]at h;exact h);clear db cz cw z0 zt;go_wp2_with fail
       refine⟨?_,by simp[intOf];omega⟩
       first
        |exact⟨b+1,a++[e],oM,gM,cs,cv,cm,b7⟩
        |((repeat apply gP);refine⟨?_,rfl⟩;exact⟨b+1,a++[e],oM,gM,cs,cv,cm,b7⟩)
     have G:Hs (OI x v a<|q+1):=Xa (l.go bv (aZ ⟨by rw[Y.o,Z.o];decide,λ_ z U=>by
      rw[Y.o]at U;obtain⟨r,hr,rfl⟩:=bR U;exact ba r hr<|oN cp.o⟩))
     have HJ:=Xa<|u.join ao ej j;go_wp2_with fail
     refine⟨?_,by simp[intOf];omega⟩
     first
      |exact⟨q+1,a,oM,gM,G,HJ⟩
      |((repeat apply gP);refine⟨?_,rfl⟩;exact⟨q+1,a,oM,gM,G,HJ⟩)
    .have dl:=Xa (y.hit T (by rw[<-Q.o];exact cr) (by rw[<-Q.o];exact Z));go_wp2;go_ret;exact⟨false,rfl,⟨λh=>(by cases h),λh=>absurd dl<|h v ez⟩,b1.trans<|(D.trans<|ao.mono (oN D.4)).mono oM⟩
    have G:=Xa (y.go T<|aZ ⟨by rw[<-Q.o,Z.o];decide,λh=>by rw[<-Q.o,Z.o]at h;cases h⟩);have E:=Xa<|u.below ao;go_wp2_with fail
    generalize wr=wp at*
    go_loopw [5,9] (λal aj wr=>al=Hl o lF cF/\aj=Hp 0/\Hs (QG wr w4)) λ_ _ _=>0
    case atStart=>exact⟨rfl,rfl,Xa rfl⟩
    obtain⟨rfl,rfl,ct⟩:=hrel;have es:wr=w4:=ct.o;clear ct;subst es;by_cases h0:0<g
    .go_wp2_with fail
     refine⟨?_,by simp[intOf];omega⟩
     first
      |exact⟨q+1,F,oM,gM,G,E⟩
      |((repeat apply gP);refine⟨?_,rfl⟩;exact⟨q+1,F,oM,gM,G,E⟩)
    go_wp2_with fail
    refine⟨?_,by simp[intOf];omega⟩
    first
     |exact⟨q+1,F,oM,gM,G,E⟩
     |((repeat apply gP);refine⟨?_,rfl⟩;exact⟨q+1,F,oM,gM,G,E⟩)
  have cq:Hs (∀d,d < v+1->¬N4 x d):=Xa (λd gh=>by
   by_cases f:d=v
   .subst f;exact y.none<|oN cj.o
   exact co d oM)
  have b4:=Xa<|W.trans (ck.mono dk);go_wp2_with fail
  refine⟨?_,by simp[intOf];omega⟩
  first
   |exact⟨v+1,oM,gM,b4,cq⟩
   |((repeat apply gP);refine⟨?_,rfl⟩;exact⟨v+1,oM,gM,b4,cq⟩)
 have HS:Hs (∀d,d < n->¬N4 x d):=Xa λd h=>co d oM;go_wp2;go_ret;exact⟨true,rfl,⟨λ_=>HS,λ_=>rfl⟩,b1.trans<|W.mono oM⟩
theorem KT(v:Int)(c:Nat)(ha:Hs (Xp w m k p x))(d:Hs (n=x.length))(hs:Hs (x.length+Xx x<=1048576))(H:k<=w.1.size):
 Calls prog 33 #[.agg #[Hp v,.slice p n c]] w λj A=>j=.returned (Hp<|Ft v x)/\Below w.1.size w A:=by
 have e:=Xa λW (a:Below w.1.size w W)=>Tr v p n c x m k W (Xa<|ha.keep (a.mono H)) d hs (oN a.4);have af:=Xa<|WY ⟨v,x⟩;rw[<-af.o]at e;have g:Below w.1.size w (w.alloc<|.cells #[Hp v,.slice p n c] 37):=Xb (Below.refl _ _) _;have I:(w.alloc<|.cells #[Hp v,.slice p n c] 37).cell? (Hk w.1.size 0)=some (Hp v):=sP;have J:(w.alloc<|.cells #[Hp v,.slice p n c] 37).cell? (Hk w.1.size 1)=some (.slice p n c):=sP;have q:w.1.size<(w.alloc<|.cells #[Hp v,.slice p n c] 37).1.size:=sP;cases hv:XJ ⟨v,x⟩with
 |false=>
  rw[hv]at e;rw[Uh hv];clear hv
  go_in
  go_wp2_with fail
  refine(e _ g).mono ?_;rintro j B⟨rfl,b⟩;have t:=Xa<|Xg g b;clear b e g I J q;go_wp2;go_ret;exact⟨rfl,t⟩
 |true=>
  rw[hv]at e;have E:=Xa hv;have Z:0<=v:=by
   simp only[XJ,Y6,bY,bD]at hv;omega
  obtain⟨V,rfl⟩:=bX Z;have f:=Xa<|XH hv;have hn:n<=1000:=oP d.o f.1.2;have ar:0<n:=oP d.o f.1.1;generalize aa:Ft (V:Int) x=L;have G:=Xa aa;clear hv Z aa;have ac:=Xa λW (a:Below w.1.size w W)=>qt (V:Int) c (-1) (Xa<|ha.keep (a.mono H)) d oM oM (oN a.4) (Xa (d.o▸f.1.3));have ad:=Xa λW (a:Below w.1.size w W)=>BN c (Xa<|ha.keep (a.mono H)) d (oN a.4) f
  go_in
  go_wp2_with fail
  refine(e _ g).mono ?_;rintro j B⟨rfl,b⟩;have t:=Xa<|Xg g b;have Q:=oB b I q;have R:=oB b J q;have ab:=aX q b.4;clear b g I J q e;go_wp2_with fail
  refine Y7 (λA=>A.cell? (Hk w.1.size 0)=some (Hp V)/\A.cell? (Hk w.1.size 1)=some (.slice p n c)) λhHeld=>?_;refine Xn 0 ?_;refine Xn 3 ?_;refine Xn 4 ?_;refine Xn 5 ?_;refine Xs 1 λap hK=>?_;go_simp;refine(ac B.drew t.drew).mono ?_;rintro j w2⟨v2,F,rfl,h,K,X,T⟩;have y:Below B.1.size B w2:=⟨h.1,h.2,h.3,h.4,h.5⟩;rw[show Je F=(Xi F).map (Value.int .i64) by simp[Je,Xi]]at K;let⟨aF,cF,e2,_⟩:=Xk K;have U:(Xi F).length=F.length:=by simp[Xi]
  have D:=Xa (uQ f.1 X λs=>(T s).trans (rf vY));rw[U]at e2;subst e2;let⟨r,z⟩:∃al,al=F.length:=⟨_,rfl⟩;rw[<-z];have N:Hs (r=n↔Jq x):=Xa (by rw[z,d.o];exact D.2);have aq:r<=n:=by rw[z,d.o];exact D.1
  have C:=Xa<|Xg t y;have k0:=oB y Q ab;have k1:=oB y R ab;clear y h K X T U z D Q R;refine hK _ _ ⟨k0,k1⟩ λhHeld=>?_;clear hK;refine Xn 2 ?_;by_cases o:r=n
  .have M:=Xa<|N.1 o;have aj:((r:Int) != (n:Int))=false:=by simp[o]
   clear o;refine Xn 6 ?_;refine Yq ?_;clear hHeld;go_wp2_with fail
   refine(ad w2 C).mono ?_;rintro j w3⟨ao,rfl,Y,S⟩;have O:=Xa<|Xg C S;have P:=Xa Y;clear Y S;cases ao with
   |true=>
    have i:Hs (L=0):=Xa (G.o▸uP E M (λl=>by
     let⟨s,u⟩:=l;exact P.1 rfl s (wH f u) u))
    go_wp2;go_ret;exact⟨by rw[i.o];rfl,O⟩
   |false=>
    have i:Hs (L=11):=Xa (G.o▸qg E M (dQ λl=>by
     have:=P.2 λs _ u=>l ⟨s,u⟩;cases this))
    go_wp2;go_ret;exact⟨by rw[i.o];rfl,O⟩
  have i:Hs (L=10):=Xa (G.o▸t9 E λl=>o<|N.2 l);have aj:((r:Int) != (n:Int))=true:=by simp;omega
  clear o;refine Xn 6 ?_;refine Yq ?_;clear hHeld;go_wp2;go_ret;exact⟨by rw[i.o];rfl,C⟩
end Go.Proofs.YtcfdhbigppockaaGreatDoor
