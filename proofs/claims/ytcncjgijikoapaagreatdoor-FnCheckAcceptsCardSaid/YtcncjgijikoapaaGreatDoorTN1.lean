import Derived.Test.YtcncjgijikoapaaGreatDoorTN3
namespace Go.Proofs.YtcncjgijikoapaaGreatDoor
set_option maxHeartbeats 8000000
set_option maxRecDepth 100000
open _root_ renaming Array.size->Z,List.length->J,Nat->N,Int->I,rfl->R,Option.some->S,Option.none->U,Bool.true->So,Bool.false->Sn,absurd->Sz,trivial->JV
open Go renaming World.cell?->E,World.alloc->D,World.setCell->Se,World.ownsRow->Sx,IntKind.i64->S6,Obj.cells->Sc,undef->Su,RowKit.Below->Sw,RowKit.intOf->JB
open Value renaming slice->X,int->Si,agg->Sa
open Go.RowKit Go.Proofs.Tryz
variable{n m k B g i j c:N}{Z_:N->N×N×N}{w v u:Ub}{a A_:Uj}{p P:Uy}{h H_:Vu}{x:Wi}{y:Wo}
structure SP(w wr:Ub)(v G_ n c:N)(pv iv:Vu)(xs:Wi)(vg:Uj)(b:N):Prop where
 low:Sw (Z w.1) w wr
 box:Bx wr (Z w.1) #[Si S6 (v:I),X (S ⟨G_,0,U⟩) n c] 25
 res:Bx wr (Z w.1+1) #[Si S6 0,X U 0 0] 25
 gbx:Bx wr (Z w.1+2) #[Si S6 (v:I),vg] 25
 own:Sx wr (Z w.1+3) 52 6 vg b (jx (λi=>pv<|ij i n) (λi=>iv<|ij i n) ((Ra xs).take b))
theorem SP.keep{wr w':Ub}{d:N}{vg:Uj}{b:N}(a:SP w wr n d m c h H_ x vg b)(k:Sw (Z wr.1) wr w'):SP w w' n d m c h H_ x vg b :=
 ⟨a.1.trans<|k.mono a.1.4,a.2.keep<|k.5 _ a.2.lt,a.3.keep<|k.5 _ a.3.lt,a.4.keep<|k.5 _ a.4.lt,Zl a.5 λq e=>k.5 q (a.5.lt q e).2⟩
theorem SP.push{F:N}{vg:Uj}{b:N}{o:Obj}{kh:Yj}(d:SP w v n F m c h H_ x vg b)(g:(D v o).grownBy u vg.ownBlock)(p:Sx u (Z w.1+3) 52 6 a k ((jx (λi=>h<|ij i m) (λi=>H_<|ij i m) ((Ra x).take b))++[h<|ij b m,H_<|ij b m,Si S6 (Nd m kh).1,Si S6 (Nd m kh).a,Si S6 (Nd m kh).3,Si S6 (Nd m kh).4]))(t:k=b+1)(l:m=J x)(z:b<m)(y:kh=(x.getD (ij b m) ip).3):
 Bx u (Z w.1+2) #[Si S6 (n:I),vg] 25/\SP w (Se u ⟨Z w.1+2,1,U⟩ a) n F m c h H_ x a (b+1):=by
 have C:=d.4.lt;have f:∀q,q<Z w.1+3->u.1[q]?=v.1[q]?:=λq B=>G (g.5 q SB λe=>by have:=(d.5.lt q e.symm).1;omega) (gF _ _ _ O);have s:Sw (Z w.1) w u:=(d.1.trans<|vT Rf O o).trans (Xy Rf g (d.5.alloc o) O SB);have j:=d.4.keep<|f _ O;refine⟨j,s.setCell (by show Z w.1<=Z w.1+2;omega) _,(d.2.keep<|f _ O).other O,(d.3.keep<|f _ O).other O,?_,?_⟩
 .have:=j.set 1 a;simpa using this
 subst t;have A_:J (Ra x)=m:=by rw[l];simp[Ra]
 have e:(jx (λi=>h<|ij i m) (λi=>H_<|ij i m) ((Ra x).take (b+1)))=(jx (λi=>h<|ij i m) (λi=>H_<|ij i m) ((Ra x).take b))++[h<|ij b m,H_<|ij b m,H (Nd m kh).1,H (Nd m kh).a,H (Nd m kh).3,H (Nd m kh).4]:=by
  have r:b<J (Ra x):=O;rw[bN r];unfold jx;rw[Zo,aV,dH,jZ O];have e2:(Ra x)[b].3=Nd m kh:=by rw[y];simp[Ra,l]
  rw[e2];rfl
 rw[e];refine fS p (λe=>?_) a;have:=(p.lt _ e).1;simp at this
structure VQ where
 b:N
 vg:Uj
 c6:Uj
 tl:Wo
theorem X3{X_:Yt}{o:N}(b4:N->N×N×N)(av:N->Vu){c0 c9 aj al am ao ap:Uj}(hQ:Q (∀c (a3:Act) t_ n w,X_ (.panic c) (a3.put (S t_) n) w->X_ (.panic c) a3 w))(hF:Q (xW w b4 k (Hl o m c) x h H_ av))(hn:Q (m=J x))(cd:m<=11)(bt:Q (p8 x))(a5:∀(vg t:Uj)(y:Wo)(j:Ub),J y=134->SP w j n o m c h H_ x vg m->X_ (.exit 0) ⟨(c0::Hn (Z w.1)::Hn (Z w.1+1)::H ((m:N):I)::Hn (Z w.1+2)::H ((m:N):I)::t::a::A_::c9::aj::al::am::ao::ap::y).toArray,[]⟩ j){vg t:Uj}{wr:Ub}(P:J y=134)(T:Q (SP w wr n o m c h H_ x vg 0)):
 Code.wp prog (Code.loop Mj) X_ ⟨(c0::Hn (Z w.1)::Hn (Z w.1+1)::H ((m:N):I)::Hn (Z w.1+2)::H ((0:N):I)::t::a::A_::c9::aj::al::am::ao::ap::y).toArray,[]⟩ wr:=by
 have HX:=Y a5;clear a5;refine iY (λZ_ wr=>∃M:VQ,Z_=⟨(c0::Hn (Z w.1)::Hn (Z w.1+1)::H ((m:N):I)::Hn (Z w.1+2)::H ((M.b:N):I)::M.3::a::A_::c9::aj::al::am::ao::ap::M.4).toArray,[]⟩/\J M.4=134/\M.b<=m/\Q (SP w wr n o m c h H_ x M.2 M.b)) (λZ_ _=>m-(JB<|Z_.1.getD 5 Su).toNat) ⟨⟨0,vg,t,y⟩,R,P,aN,T⟩ ?_;clear T P;rintro Z_ wr⟨⟨b,vg,t,y⟩,rfl,P,hb,f⟩;dsimp only at P hb f |-
 conv=>arg 2;whnf
 obtain⟨b8,rfl⟩:=pN P;simp only[wK,Nat.reduceAdd];clear P;by_cases bp:b<m
 .have bq:(b:I)<m:=O;have a7:ij b m<m:=by unfold ij;split<;>omega
  have V:ij b m<J x:=by rw[<-hn.o];exact a7
  have a9:Rs (b:I) m=((ij b m:N):I):=by
   unfold Rs ij;split
   .rename_i T;have:b=0:=O;rw[aU this];rfl
   rename_i T;rw[aM O];omega
  have af:=Y a9;clear a9;obtain⟨p0,p1,t0,t1,t2,t3⟩:=hF.cells V;have bi:=(hF.1.1.lt o R).2;have F:=Y λW (hW:Sw (Z w.1) w W) o_=>hW.cell (p:=A o o_) bi;have x1:=Bx.c f.2 1;have R_:=G (F.o _ f.1 _) p0;have S_:=G (F.o _ f.1 _) p1;have y2:=G (F.o _ f.1 _) t0;have y3:=G (F.o _ f.1 _) t1;have y4:=G (F.o _ f.1 _) t2;have y5:=G (F.o _ f.1 _) t3;obtain⟨r,s,az⟩:=(hF.2 _ V).form;obtain⟨l,p,aq⟩:=(hF.3 _ V).form;rw[az]at R_;rw[aq]at S_;have bh:Q (x[ij b m].3=(x.getD (ij b m) ip).3):=Y (by simp[V]);have a2:=Y<|bt.o _ (aH V);rw[<-hn.o]at a2;have bd:=Y az;have bb:=Y aq;clear az aq p0 p1 t0 t1 t2 t3;generalize J x[ij b m].1=u at*;generalize J x[ij b m].2=q at*;generalize x[ij b m].3=d at*;have ba:Q (ij b m=ij b m):=Y R;generalize a8:ij b m=L at x1 R_ S_ y2 y3 y4 y5 af a7;have b6:=Y a8;clear a8 ba;have ad:Q (Z w.1+3<=Z wr.1):=Y f.4.lt;have ac:Q (Sw (Z wr.1) wr (D wr (Sc #[X r u s,X l q p,H d.1,H d.a,H d.3,H d.4] 52)).drew/\Bx (D wr (Sc #[X r u s,X l q p,H d.1,H d.a,H d.3,H d.4] 52)).drew (Z wr.1) #[X r u s,X l q p,H d.1,H d.a,H d.3,H d.4] 52):=Y ⟨(Xb Rf _).drew,Bx.new _ _ _⟩;have v:Q (∀aa o_ ab,aa<Z wr.1->E wr (A aa o_)=S ab->E (D wr (Sc #[X r u s,X l q p,H d.1,H d.a,H d.3,H d.4] 52)).drew (A aa o_)=S ab):=Y λaa o_ ab hq hu=>oB ac.1 hu hq;have bc:Q (vg.ownBlock≠S (Z wr.1)):=Y (λM_=>by have:=(f.5.lt _ M_).2;omega);have ca:o<Z wr.1:=oN ad.o;have cf:Z w.1<Z wr.1:=oN ad.o
  go_upto_region 6 with fail
  go_cut [6]from 21 to 60 λt wx=>t=Hn (Z wr.1)/\Q (Sw (Z wr.1) wr wx/\Bx wx (Z wr.1) #[X r u s,X l q p,H d.1,H d.a,H d.3,H d.4] 52)
  case first=>
   refine Y7 (λj=>E j (A (Z w.1) 1)=S (Hl o m c)/\E j (A o (L*6))=S (X r u s)/\E j (A o (L*6+1))=S (X l q p)/\E j (A o (L*6+2))=S (H d.1)/\E j (A o (L*6+2+1))=S (H d.a)/\E j (A o (L*6+2+2))=S (H d.3)/\E j (A o (L*6+2+3))=S (H d.4)) λi=>?_;refine X0 0 ?_;refine X0 1 ?_;refine X0 2 ?_;refine X0 3 ?_;refine eS (rs:=[4,7]) vZ sP ?_;refine(bQ R (λK hK=>?_) (bQ R (λK hK=>?_) dY))
   focus
    go_simp
    go_at_call 123
    refine YU (uV O O O) λw1 a0=>?_;subst a0;rw[af.o];refine hK _ _ ⟨x1,R_,S_,y2,y3,y4,y5⟩ λi=>?_;clear hK
    try simp only[xX]
    refine X0 5 ?_;refine eS (rs:=[6,7]) vZ sP ?_;refine(bQ R (λK hK=>?_) (bQ R (λK hK=>?_) dY))
   focus
    go_simp;refine hK _ _ kP λi=>?_;clear hK
    try simp only[xX]
    refine Xs 7 λK hK=>?_;go_simp;refine hK _ _ kP λi=>?_;clear hK
   rotate_left
   focus
    go_simp;refine hK _ _ kP λi=>?_;clear hK
    try simp only[xX]
    refine Xs 6 λK hK=>?_;go_simp;refine hK _ _ kP λi=>?_;clear hK
   rotate_left
   focus
    go_simp;refine hK _ _ kP λi=>?_;clear hK
    try simp only[xX]
    refine Xs 4 λK hK=>?_;go_simp
    go_at_call 123
    refine YU (uV O O O) λw1 a0=>?_;subst a0;rw[af.o];refine hK _ _ i λi=>?_;clear hK;refine X0 5 ?_;refine Xs 6 λK hK=>?_;go_simp;refine hK _ _ kP λi=>?_;clear hK
   all_goals (
    refine Xs 8 λK hK=>?_;go_simp;refine hK _ _ ⟨v.o _ _ _ O x1,v.o _ _ _ O R_,v.o _ _ _ O S_,v.o _ _ _ O y2,v.o _ _ _ O y3,v.o _ _ _ O y4,v.o _ _ _ O y5⟩ λi=>?_;clear hK;refine Yq ?_;clear i;go_wp2
    go_meet;exact⟨R,ac⟩)
  obtain⟨rfl,V_⟩:=hcut;clear x1 R_ S_ y2 y3 y4 y5 ac v;have bf:Q (∀W,Sw (Z wr.1) wr W->SP w W n o m c h H_ x vg b):=Y λW hW=>f.keep hW;have be:=Y<|f.keep V_.1;have e:=Y V_.2;have B:=Y V_.1;have cc:=ad.o;clear f V_;generalize wc=w1 at*;have b5:Q (vg.ownBlock≠S (Z wr.1)):=Y bc.o;generalize Z wr.1=xb at*;have q2:=Bx.c e.o 2;have O_:=Bx.c e.o 4;have P_:=Bx.c e.o 5;have qz:=Bx.thaw e.o
  go_upto_if 36 with fail
  have ce:=a2.2
  go_cut []from 21 to 60 λQ_=>Q (Sw xb wr Q_/\Bx Q_ xb #[X r u s,X l q p,H d.1,H d.a,H (Nd m d).3,H d.4] 52)
  case first=>
   by_cases g:d.1=3
   .have ar:(d.1 != 3)=Sn:=by simpa using g
    have z:Q ((Nd m d).3=d.3):=Y (by unfold Nd;dsimp only;rw[aM λT=>T g]);clear g;go_wp2;go_meet;rw[z.o];exact Y ⟨B.o,e.o⟩
   have ar:(d.1 != 3)=So:=by simpa using g
   have z:Q ((Nd m d).3=Rs d.3 m):=Y (by unfold Nd;dsimp only;rw[aU g]);clear g;go_wp2_with fail
   refine YU (uV O O O) λw2 bv=>?_;subst bv;go_wp2;go_meet;rw[z.o];refine Y ⟨B.setCell aA _,?_⟩;have:=e.set 4<|H (Rs d.3 m);simpa using this
  have C:=Y hcut.o;clear e q2 O_ P_ qz B hcut be;have B:=Y C.1;have e:=Y C.2;clear C;generalize wc=w2 at*;have q2:=Bx.c e.o 2;have O_:=Bx.c e.o 4;have P_:=Bx.c e.o 5;have qz:=Bx.thaw e.o
  go_upto_if 47 with fail
  go_cut []from 21 to 60 λQ_=>Q (Sw xb wr Q_/\Bx Q_ xb #[X r u s,X l q p,H (Nd m d).1,H (Nd m d).a,H (Nd m d).3,H (Nd m d).4] 52)
  case first=>
   by_cases g:d.1=2
   .have ar:(d.1==2)=So:=by simpa using g
    have z:Q ((Nd m d).4=Rs d.4 m):=Y (by unfold Nd;dsimp only;rw[aU g]);clear g;go_wp2_with fail
    refine YU (uV O O O) λw3 bx=>?_;subst bx;go_wp2;go_meet;rw[z.o];refine Y ⟨B.setCell aA _,?_⟩;have:=e.set 5<|H (Rs d.4 m);simpa [Nd]using this
   have ar:(d.1==2)=Sn:=by simpa using g
   have z:Q ((Nd m d).4=d.4):=Y (by unfold Nd;dsimp only;rw[aM g]);clear g;go_wp2;go_meet;rw[z.o];exact Y ⟨B.o,e.o⟩
  have C:=Y hcut.o;clear e q2 O_ P_ qz B hcut;have U_:Q (SP w wc n o m c h H_ x vg b):=Y<|bf.o _ C.1;have e:=Y C.2;clear C;generalize wc=w3 at*;generalize a4:Nd m d=Y_ at*;have bg:=Y a4;clear a4;have f1:=Bx.c U_.4 1;have q0:=Bx.c e.o 0;have q1:=Bx.c e.o 1;have q2:=Bx.c e.o 2;have q3:=Bx.c e.o 3;have O_:=Bx.c e.o 4;have P_:=Bx.c e.o 5;have cb:=U_.4.lt;go_wp2_with (at_builtin;refine YC (n:=b) (xs:=jx (λa1=>h<|ij a1 m) (λa1=>H_<|ij a1 m) ((Ra x).take b)) BQ U_.5 ?_)
  intro v8 w8 au a6 br bk;have T_:Q (Bx w8 (Z w.1+2) #[H n,vg] 25/\SP w (Se w8 (A (Z w.1+2) 1) v8) n o m c h H_ x v8 (b+1)):=Y (U_.push (kh:=d) a6 (by rw[bg.o,bd.o,bb.o];exact au) R hn.o bp bh.o);obtain⟨g8,b7,rfl,bn,bm⟩:=Xm au O;clear bn bm br bk au a6 q0 q1 q2 q3 O_ P_ f1;have k1:=Bx.c T_.1 1;have kz:=Bx.thaw T_.1;have HF:=Y T_.2;clear T_;go_wp2;exact⟨⟨⟨b+1,_,_,_⟩,R,R,(by show b+1<=m;omega),HF⟩,SA⟩
 have bq:¬(b:I)<m:=O;have bl:b=m:=O;subst bl;go_wp2_with fail
 exact HX.o _ _ _ _ (by rfl) f.o
def sQ(n:N)(L:N×N×N):N×N×N:=if L.1=0 then (0,0,0)else if L.1=1 then (9,0,0)else (L.1,ij L.2.1 n,L.2.2)
structure SN(w wr:Ub)(lab0 lab:N->N×N×N)(base v G_ n c G' c':N)(g:Wi)(pv iv:Vu)(av:N->Vu):Prop where
 low:Sw (Z w.1) w wr
 box:Bx wr (Z w.1) #[Si S6 (v:I),X (S ⟨G_,0,U⟩) n c] 25
 res:Bx wr (Z w.1+1) #[Si S6 0,X U 0 0] 25
 gbx:Bx wr (Z w.1+2) #[Si S6 (v:I),X (S ⟨G',0,U⟩) n c'] 25
 gg:Z w.1+3<=G'
 fn:xW wr lab base (X (S ⟨G',0,U⟩) n c') g pv iv av
 bs:base<=Z w.1
 fr:∀q,Z wr.1<=q->lab q=(0,0,0)
 old:∀q,q<Z w.1->lab0 q=(0,0,0)->lab q=(0,0,0)
 bxl:∀q,Z w.1<=q->q<Z w.1+3->lab q=(0,0,0)
theorem EL(a:Wi):J (Ra a)=J a:=by simp[Ra]
theorem zA{b:N}(c:b<J (Ra x))(a:ij b (J x)<J x):(Ra x)[b]=⟨x[ij b (J x)].1,x[ij b (J x)].2,Nd (J x) x[ij b (J x)].3⟩:=by simp[Ra,a]
theorem SP.turn{wr:Ub}{K:N}{av:N->Vu}{vg:Uj}(hF:xW w Z_ n (X (S ⟨K,0,U⟩) B c) x h H_ av)(M:B=J x)(C:n<=Z w.1)(W:1<=B)(d:SP w wr k K B c h H_ x vg B):
 ∃a j P,vg=X (S ⟨a,0,U⟩) B j/\SN w wr Z_ P n k K B c a j (Ra x) (λi=>h<|ij i B) (λi=>H_<|ij i B) (λi=>av<|ij i B):=by
 subst M;obtain⟨a,j,e,M_⟩:=Xm d.5 O;subst e;have o:=d.5.lt a R;have T:=EL x;have rl:∀{L p:N×N×N}{y v:N}{z:Uj}{m:N}{r:Wo},Xv w Z_ L n y v z m r->sQ (J x) L=p->Xv wr (λq=>if q<Z w.1 then sQ (J x) (Z_ q)else if q=a then (1,0,0)else (0,0,0)) p n y v z m r:=λl V=>⟨Zl l.1 λb e=>d.1.5 b (l.1.lt b e).2,λb e=>by show(if b<Z w.1 then sQ (J x) (Z_ b)else _)=_;rw[aU (l.1.lt b e).2,l.2 b e,V]⟩
 refine⟨a,j,λq=>if q<Z w.1 then sQ (J x) (Z_ q)else if q=a then (1,0,0)else (0,0,0),R,d.1,d.2,d.3,d.4,o.1,⟨⟨?_,λb e=>?_⟩,λi g=>?_,λi g=>?_,λi g F t=>?_⟩,C,λq u=>?_,λq u s=>?_,λq s K_=>?_⟩
 .have:=Zk d.5 (show n<=Z w.1+3 by omega);rw[aW O]at this;rw[T];exact this
 .have e2:a=b:=by injection e
  subst e2;show(if a < Z w.1 then _ else if a=a then _ else _)=_;rw[aM O,aU R]
 .have f:=vA (show i<J x by omega);rw[zA g f];refine rl (hF.2 _ f) ?_;unfold sQ;rw[aM sP,aM sP,sZ O]
 .have f:=vA (show i<J x by omega);rw[zA g f];refine rl (hF.3 _ f) ?_;unfold sQ;rw[aM sP,aM sP,sZ O]
 .have f:=vA (show i<J x by omega);have e:=zA g f;simp only[e]at t |-;refine rl (hF.4 _ f F t) ?_;unfold sQ;rw[aM sP,aM sP,sZ O]
 .have:=o.2;have:=d.1.4;show(if q<Z w.1 then _ else if q=a then _ else _)=_;rw[aM O,aM O]
 .show(if q<Z w.1 then sQ (J x) (Z_ q)else _)=_;rw[aU u,s];rfl
 have:=o.1;show(if q<Z w.1 then _ else if q=a then _ else _)=_;rw[aM O,aM O]
theorem SN.step{wr:Ub}{f y:N->N×N×N}{G_ b:N}{av:N->Vu}{vp:Uj}{P:Za}{M_:Vu}(a:SN w wr Z_ f n k G_ B c g i x h H_ av)(T_:b<J x)(T:Sw (Z wr.1) wr v)(o:nL v u y b vp P M_):
 u.frozen? ⟨g,b*6,U⟩=Sn/\∃Y_,SN w (Se u ⟨g,b*6,U⟩ vp) Z_ Y_ n k G_ B c g i (x.set b ⟨P,x[b].2,x[b].3⟩) (λd=>if d=b then vp else h d) H_ (λd=>if d=b then M_ else av d):=by
 have ab:=T.4;have ac:=o.1.4;have W_:=a.1.4;have P_:=R4 a.6.1;have N_:=a.6.1.2 g R;have aa:=a.6.1.1.lt g R;have t:∀q,q<Z wr.1->u.1[q]?=wr.1[q]?:=λq s=>G (o.1.5 q O) (T.5 q s)
 have old:∀{L:N×N×N}{M z:N}{C:Uj}{m:N}{p:Wo},Xv wr f L n M z C m p->L≠(1,0,0)->¬((L.1=2\/L.1=4)/\L.2.1=b)->Xv (Se u (A g (b*6)) vp) (λq=>if q<Z v.1 then (if ((f q).1=2\/(f q).1=4)/\(f q).2.1=b then (9,0,0)else f q)else y q) L n M z C m p:=λj Q_ R_=>⟨Zl j.1 λq e=>G (cY λe2=>Q_<|by rw[<-j.2 q e,e2,N_]) (t q (j.1.lt q e).2),λq e=>by show(if q<Z v.1 then _ else _)=_;rw[aU<|oN ((j.1.lt q e).2),j.2 q e,aM R_]⟩
 have new:∀{L:N×N×N}{M z:N}{C:Uj}{m:N}{p:Wo},Xv u y L (Z v.1) M z C m p->Xv (Se u (A g (b*6)) vp) (λq=>if q<Z v.1 then (if ((f q).1=2\/(f q).1=4)/\(f q).2.1=b then (9,0,0)else f q)else y q) L n M z C m p:=λj=>⟨Zk (Zl j.1 λq e=>cY (by have:=(j.1.lt q e).1;show q≠g;omega)) (oN a.7),λq e=>by show(if q<Z v.1 then _ else _)=_;rw[aM<|oN ((j.1.lt q e).1),j.2 q e]⟩
 have O_:Xv u f (1,0,0) n 52 6 (Hl g B i) B (jx h H_ x):=by have:=a.6.1;rw[P_]at this;exact⟨Zl this.1 λq e=>t q (this.1.lt q e).2,this.2⟩
 refine⟨O_.thaw _,λq=>if q<Z v.1 then (if ((f q).1=2\/(f q).1=4)/\(f q).2.1=b then (9,0,0)else f q)else y q,?_,?_,?_,?_,a.5,⟨⟨?_,λq e=>?_⟩,λd l=>?_,λd l=>?_,λd l V r=>?_⟩,a.7,λq s=>?_,λq s W=>?_,λq W S_=>?_⟩
 .have:=a.5;exact((a.1.trans<|T.mono W_).trans (o.1.mono O)).setCell (by show Z w.1<=g;omega) _
 .exact(a.2.keep<|t _ a.2.lt).other (oN a.5)
 .exact(a.3.keep<|t _ a.3.lt).other (oN a.5)
 .exact(a.4.keep<|t _ a.4.lt).other (oN a.5)
 .rw[bL,P_]
  have X_:=(O_.set (b*6) vp).1;have e:jx (λd=>if d=b then vp else h d) H_ (x.set b ⟨P,x[b].2,x[b].3⟩)=(jx h H_ x).set (b*6) vp:=by unfold jx;have:=WA (f:=λd (K:Xe)=>L7 (h d) (H_ d) K.3) (f':=λd (K:Xe)=>L7 (if d=b then vp else h d) (H_ d) K.3) (sz:=6) (λ_ _=>R) 0 x b T_ ⟨P,x[b].2,x[b].3⟩ 0 vp O (by(try dsimp only);rw[aV,aU R];rfl) (λV r U_=>by(try dsimp only);rw[aV,aM U_]);rw[fW]at this;exact this
  rw[e];exact X_
 .have e2:g=q:=by injection e
  subst e2;show(if g < Z v.1 then _ else _)=_;rw[aU O,N_,aM sP]
 .by_cases e:d=b
  .subst e;simp only[cQ,aU];exact new o.2
  simp only[bI λe2=>e e2.symm,aM e];exact old (a.6.2 d<|by simpa using l) sP SB
 .by_cases e:d=b
  .subst e;simp only[cQ];exact old (a.6.3 d<|by simpa using l) sP sP
  simp only[bI λe2=>e e2.symm];exact old (a.6.3 d<|by simpa using l) sP sP
 .by_cases e:d=b
  .subst e;simp only[cQ]at r |-;simp only[aU];exact new<|o.3 V r
  simp only[bI λe2=>e e2.symm]at r |-;simp only[aM e];exact old (a.6.4 d (by simpa using l) V r) sP SB
 .have V_:Z u.1<=q:=by simpa [World.setCell]using s
  show(if q<Z v.1 then _ else _)=_;rw[aM O];exact o.4 q V_
 .have F:=a.9 q s W;show(if q<Z v.1 then _ else _)=_;rw[aU O,F,aM sP]
 have F:=a.10 q W S_;have:=a.5;show(if q<Z v.1 then _ else _)=_;rw[aU O,F,aM sP]
theorem SN.keep{wr w':Ub}{e:N->N×N×N}{l:N}{av:N->Vu}(a:SN w wr Z_ e n m l k c B g x h H_ av)(d:Sw (Z wr.1) wr w'):SN w w' Z_ e n m l k c B g x h H_ av:=⟨a.1.trans<|d.mono a.1.4,a.2.keep<|d.5 _ a.2.lt,a.3.keep<|d.5 _ a.3.lt,a.4.keep<|d.5 _ a.4.lt,a.5,a.6.sp (⟨d.4,λb _ i _=>⟨d.5 b i,R⟩,λj q f=>j q<|aJ d.4 f⟩:XW wr w' e e n λ_=>True) 0 (λ_ _ _ _ _=>JV) (bC λ_ _=>JV),a.7,λq f=>a.8 q<|aJ d.4 f,a.9,a.10⟩
theorem SN.drew{wr:Ub}{b:N->N×N×N}{d:N}{av:N->Vu}(a:SN w wr Z_ b n m d k c B g x h H_ av):SN w wr.drew Z_ b n m d k c B g x h H_ av:=⟨a.1.drew,a.2,a.3,a.4,a.5,a.6.sp (⟨aA,λ_ _ _ _=>⟨R,R⟩,λa=>a⟩:XW wr wr.drew b b n λ_=>True) 0 (λ_ _ _ _ _=>JV) (bC λ_ _=>JV),a.7,a.8,a.9,a.10⟩
theorem nL.start(w:Ub)(b:N):nL w (D w (Sc #[] 152)) (λq=>if q=Z w.1 then (2,b,0)else (0,0,0)) b (X (S ⟨Z w.1,0,U⟩) 0 0) [] (λ_=>Su):=by
 refine⟨Xb Rf _,⟨eI (base:=Z w.1) (e:=152) (size:=2) w #[] 0 sP sP R,λq e=>?_⟩,λj a=>Sz a sP,λq c=>?_⟩
 .have e2:Z w.1=q:=by injection e
  show(if q=Z w.1 then _ else _)=_;rw[aU e2.symm]
 rw[aO]at c;show(if q=Z w.1 then _ else _)=_;rw[aM O]
theorem OZ{L:Yt}{K gc b:N}{M:Uy}{c0 c1 c2 c5:Uj}(x:E w (A m 1)=S (Hl K n gc))(C:m<Z w.1)(z:E w (A K (b*6))=S (X M 0 k))(v:K<Z w.1)(F:b<n)(_hn:n<=11){vp d e:Uj}(f:N->N×N×N){wr:Ub}(q:∀(u:Uj)(y:Wo)(s:Ub),J y=134->nL w s f b vp [] h->L (.exit 4) ⟨(c0::c1::c2::H ((n:N):I)::Hn m::c5::a::H ((b:N):I)::X p B g::X P i j::vp::u::A_::d::e::y).toArray,[]⟩ s)(r:J y=134)(o:Q (nL w wr f b vp [] h)):
 Code.wp prog (Code.loop zX) L ⟨(c0::c1::c2::H ((n:N):I)::Hn m::c5::a::H ((b:N):I)::X p B g::X P i j::vp::H ((0:N):I)::A_::d::e::y).toArray,[]⟩ wr:=by
 have t:=Y q;clear q;refine iY (λl wr=>l=⟨(c0::c1::c2::H ((n:N):I)::Hn m::c5::a::H ((b:N):I)::X p B g::X P i j::vp::H ((0:N):I)::A_::d::e::y).toArray,[]⟩/\Q (nL w wr f b vp [] h)) (λ_ _=>0) ⟨R,o⟩ ?_;clear o;rintro l wr⟨rfl,c⟩
 conv=>arg 2;whnf
 obtain⟨T,rfl⟩:=pN r;simp only[wK,Nat.reduceAdd];clear r;have H_:=oB c.1 x C;have V:=oB c.1 z v;go_wp2_with fail
 exact t.o _ _ _ (by rfl) c.o
structure NP where
 b:N
 g:Wi
 lab:N->N×N×N
 pv:Vu
 iv:Vu
 av:N->Vu
 c8:Uj
 c9:Uj
 c10:Uj
 c11:Uj
 c12:Uj
 c13:Uj
 c14:Uj
 tl:Wo
theorem Ye{a0:Yt}{o:N}(ao:N->N×N×N){c0 c5:Uj}(hQ:Q (∀c (M:Act) be n w,a0 (.panic c) (M.put (S be) n) w->a0 (.panic c) M w))(hF:Q (Xp w g (Z w.1) (S ⟨o,0,U⟩) x))(K:Q (m=J x))(bx:m<=11)(ha:Q (xw x))(ck:Q (RS x))(bv:∀(A_ c9 af F S_ T_ U_:Uj)(X_:N->N×N×N)(h H_:Vu)(av:N->Vu)(y:Wo)(T:Ub),J y=134->SN w T ao X_ g n o m c k B (mf x) h H_ av->a0 (.exit 2) ⟨(c0::Hn (Z w.1)::Hn (Z w.1+1)::H ((m:N):I)::Hn (Z w.1+2)::c5::a::H ((m:N):I)::A_::c9::af::F::S_::T_::U_::y).toArray,[]⟩ T){c9 af F S_ T_ U_:Uj}(X_:N->N×N×N)(av:N->Vu){wr:Ub}(l:J y=134)(q:Q (SN w wr ao X_ g n o m c k B (Ra x) h H_ av)):
 Code.wp prog (Code.loop Fl) a0 ⟨(c0::Hn (Z w.1)::Hn (Z w.1+1)::H ((m:N):I)::Hn (Z w.1+2)::c5::a::H ((0:N):I)::A_::c9::af::F::S_::T_::U_::y).toArray,[]⟩ wr:=by
 have HX:=Y bv;clear bv;refine iY (λa' wr=>∃e:NP,a'=⟨(c0::Hn (Z w.1)::Hn (Z w.1+1)::H ((m:N):I)::Hn (Z w.1+2)::c5::a::H ((e.b:N):I)::e.7::e.8::e.9::e.10::e.11::e.12::e.13::e.tl).toArray,[]⟩/\J e.tl=134/\e.b<=m/\Q (oK x (m-e.b) e.b e.g=mf x)/\Q (J e.g=m)/\Q (∀j (q:j<J e.g) (h':ij j m<J x),e.b<=j->e.g[j].1=x[ij j m].1)/\Q (SN w wr ao e.3 g n o m c k B e.g e.4 e.5 e.6)) (λa' _=>m-(JB<|a'.1.getD 7 Su).toNat) ⟨⟨0,Ra x,X_,h,H_,av,A_,c9,af,F,S_,T_,U_,y⟩,R,l,aN,Y (by rw[K.o];rfl),Y (by rw[EL];exact K.symm),Y (λj V a8 _=>by have t:=K.o;subst t;rw[zA V a8]),q⟩ ?_;clear q l;rintro a' wr⟨⟨b,f,X_,h,H_,av,A_,c9,af,F,S_,T_,U_,y⟩,rfl,l,hb,HE,Q_,au,p⟩;dsimp only at l hb HE Q_ au p |-
 conv=>arg 2;whnf
 obtain⟨br,rfl⟩:=pN l;simp only[wK,Nat.reduceAdd];clear l;by_cases al:b<m
 .have ch:(b:I)<m:=O;have bm:Q (Rs (b:I) m=((ij b m:N):I)):=Y<|zJ al;have cb:Q (ij b m<m):=Y<|vA al;have x0:=Bx.c p.2 0;have x1:=Bx.c p.2 1;have bh:Q (Xp wr.drew g (Z w.1) (S ⟨o,0,U⟩) x):=Y<|hF.keep p.1.drew;have cd:Q (SN w wr.drew ao X_ g n o m c k B f h H_ av):=Y p.drew;have bd:Z w.1<=Z wr.1:=p.1.4;have b6:Q (Z w.1<Z wr.1):=Y p.2.lt;obtain⟨s,bc⟩:∃s,s=AQ x 0 ((ij b m:N):I):=⟨_,R⟩;have a5:=Y bc;have cl:J s<=11:=by rw[bc];have:=vK x 0 ((ij b m:N):I);have:=K.o;omega
  clear bc
  go_upto_region 15 with fail
  go_cut [8]from 15 to 148 λA_ wz=>∃Y_ bf,A_=X Y_ (J s) bf/\Q (Sw (Z wr.1) wr wz/\Xf wz 0 (Z wz.1) Y_ s)
  case first=>
   refine Y7 (λT=>E T (A (Z w.1) 0)=S (H n)/\E T (A (Z w.1) 1)=S (Hl o m c)) λz=>?_;refine X0 1 ?_;refine X0 2 ?_;refine eS (rs:=[0,3]) vZ sP ?_;refine(bQ R (λaz hK=>?_) (bQ R (λaz hK=>?_) dY))
   focus
    go_simp;refine hK _ _ kP λz=>?_;clear hK
    try simp only[xX]
    refine Xs 3 λaz hK=>?_;go_simp
    go_at_call 123
    refine YU (uV O O O) λw1 bb=>?_;subst bb;rw[bm.o];refine hK _ _ z λz=>?_;clear hK
   rotate_left
   focus
    go_simp
    go_at_call 123
    refine YU (uV O O O) λw1 bb=>?_;subst bb;rw[bm.o];refine hK _ _ z λz=>?_;clear hK
    try simp only[xX]
    refine Xs 0 λaz hK=>?_;go_simp;refine hK _ _ kP λz=>?_;clear hK
   all_goals (
    refine Xs 4 λaz hK=>?_;go_simp;refine(ZE (n:I) c ((ij b m:N):I) bh K O bd).mono ?_;rw[<-a5.o];rintro t d⟨Y_,bf,rfl,I_,aj⟩;have bo:Q (Sw (Z wr.1) wr d/\Xf d 0 (Z d.1) Y_ s):=Y ⟨((Rf).drew).trans I_,aj.mono aN aA⟩;have KK:∀L o_,L<=Z w.1->E d (A L o_)=E wr (A L o_):=λL o_ hq=>bo.1.cell (p:=A L o_) (by have:=b6.o;show L<Z wr.1;omega);refine hK _ _ ⟨G (KK _ _ aA) x0,G (KK _ _ aA) x1⟩ λz=>?_;clear hK KK
    try simp only[xX]
    refine X0 5 ?_;refine Yq ?_;clear z I_ aj;go_wp2
    go_meet;exact⟨_,_,R,bo⟩)
  obtain⟨Y_,bf,rfl,a4⟩:=hcut;have R_:=Y<|p.keep a4.1;have bp:=Y a4.2;clear x0 x1 bh cd p a4;generalize wc=w1 at*;clear bd;have bd:Z w.1<=Z w1.1:=R_.1.4;have y0:=Bx.c R_.4 0;have P:=Bx.c R_.4 1;obtain⟨C,a9⟩:∃C,C=AQ f 0 (b:I):=⟨_,R⟩;have a3:=Y a9;have ci:J C<=11:=by rw[a9];have:=vK f 0 (b:I);have:=Q_.o;omega
  clear a9;have ca:Q (∀bg∈C,0<=bg/\bg<=1000):=Y (by intro bg V_;rw[a3.o]at V_;obtain⟨co,hi,t,_⟩:=(yU _ _ _ _).1 V_;have:=Q_.o;omega)
  go_wp2_with fail
  refine(ZE (n:I) B (b:I) (Y R_.6.at_) (Y Q_.symm) O aA).mono ?_;rw[<-a3.o];rintro t d⟨na,cr,rfl,I_,aj⟩;have i:=Y<|R_.keep I_;have ce:Q (Xf d 0 (Z d.1) Y_ s):=Y<|(bp.keep I_).mono aN I_.4;have b7:Q (Xf d 0 (Z d.1) na C):=Y<|aj.mono aN aA;clear I_ aj R_ bp y0 P;go_wp2_with fail
  have v:b<J f:=by rw[Q_.o];exact al
  have ar:Q (nL d (D d (Sc #[] 152)) (λL=>if L=Z d.1 then (2,b,0)else (0,0,0)) b (Hl (Z d.1) 0 0) [] λ_=>Su):=Y<|nL.start d b;have ba:ij b m<J x:=by rw[<-K.o];exact cb.o
  have bn:=Y<|au.o b v ba aA;have P:=Bx.c i.4 1;have a7:=i.4.lt;have a6:=(i.6.1.1.lt k R).2;obtain⟨N_,-,-⟩:=i.6.cells v;obtain⟨pa,pc,am⟩:=(i.6.2 b v).form;have cm:=Y am;rw[am]at N_;have bl:Q (∀ap vp ad W,nL d W ap b vp (RK m s C f[b].1) ad->W.frozen? (A k (b*6))=Sn/\∃u M_ aq ab,oK x (m-(b+1)) (b+1) u=mf x/\J u=m/\(∀j (q:j<J u) (h':ij j m<J x),b+1<=j->u[j].1=x[ij j m].1)/\SN w (Se W (A k (b*6)) vp) ao M_ g n o m c k B u aq H_ ab):=Y (λap vp ad W hW=>by
   obtain⟨V_,M_,L_⟩:=i.step v Rf hW;refine⟨V_,_,M_,_,_,?_,?_,?_,L_⟩
   .have h0:=HE.o;rw[show m-b=(m-(b+1))+1 by omega,oK,show f.getD b ip=f[b] by simp[v],<-K.o,<-a3.o,<-a5.o]at h0;exact h0
   .rw[bL];exact Q_.o
   intro j V a8 cn
   rw[bI O];exact au.o j (by simpa using V) a8 O)
  have b8:Q (∀vp W,(∃ap ad,nL d W ap b vp (RK m s C f[b].1) ad)->∃b3 b5 b4,vp=X b3 b5 b4):=Y (λvp W q=>by obtain⟨cq,M,q⟩:=q;obtain⟨M,c,t⟩:=q.2.form;exact⟨M,_,c,t⟩)
  have bi:=Y λW (hW:Sw (Z d.1) d W)=>oB hW P a7;have bk:=Y λW (hW:Sw (Z d.1) d W)=>oB hW N_ a6;by_cases b0:J f[b].1=0
  .have cf:f[b].1=[]:=iE b0;rw[b0]at N_;refine OZ P a7 N_ a6 al bx _ ?_ (by rfl) ar;intro F y T l r;have bq:Q (RK m s C f[b].1=[]):=Y (by rw[cf];rfl);rw[<-bq.o]at r;clear bq;obtain⟨br,rfl⟩:=pN l;simp only[wK,Nat.reduceAdd];clear l;have z1:=bi.o _ r.1;have z2:=bk.o _ r.1;obtain⟨V_,u,M_,aq,ab,e1,e2,e3,L_⟩:=bl.o _ _ _ _ r;have HT:=Y L_;have a1:=Y e1;have Z_:=Y e2;have a2:=Y e3;clear L_ e1 e2 e3 r P N_ ar;go_wp2;exact⟨⟨⟨b+1,u,M_,aq,H_,ab,_,_,_,_,_,_,_,_⟩,R,R,(by show b+1<=m;omega),a1,Z_,a2,HT⟩,SA⟩
  obtain⟨gp,c2,b1⟩:=(i.6.2 b v).got O
  rw[am]at b1;injection b1 with e1 _ e3;subst e1 e3;have cg:=(i.6.2 b v).1.lt gp (by rw[am];rfl);have cc:Q (∀j (q:j<J f[b].1),E d (A gp (j*2))=S (H f[b].1[j].1)/\∃aa ac,E d (A gp (j*2+1))=S (X aa (J f[b].1[j].2) ac)/\Xf d 0 (Z d.1) aa f[b].1[j].2/\J s<=J f[b].1[j].2):=Y (λj V=>by
   have h1:=i.6.phiCells v V am;have h2:=i.6.4 b v j V;obtain⟨aa,ac,t⟩:=h2.form;rw[t]at h1 h2;refine⟨h1.1,aa,ac,h1.2,(h2.ints).mono aN aA,?_⟩;have h3:f[b].1[j]∈x[ij b m].1:=by rw[<-bn.o];exact aH V
   rw[ha.o _ ba _ h3,<-a5.o];exact aA)
  have cj:J f[b].1<=1000:=by rw[bn.o];exact(ck.o _<|aH ba).1
  refine Oc (by exact Y λc M be n w q=>hQ.o c M be n w q) ce (Y R) b7 (Y R) aA P a7 N_ a6 cg.2 (Y R) cc al bx ca ⟨ci,cl⟩ cj ?_ _ (by rfl) ar;intro vp F S_ T_ U_ ap ad y T l r;obtain⟨br,rfl⟩:=pN l;simp only[wK,Nat.reduceAdd];clear l;obtain⟨b3,b5,b4,rfl⟩:=b8.o _ _ ⟨_,_,r⟩;have z1:=bi.o _ r.1;have z2:=bk.o _ r.1;obtain⟨V_,u,M_,aq,ab,e1,e2,e3,L_⟩:=bl.o _ _ _ _ r;have HT:=Y L_;have a1:=Y e1;have Z_:=Y e2;have a2:=Y e3;clear L_ e1 e2 e3 r P N_ ar;go_wp2;exact⟨⟨⟨b+1,u,M_,aq,H_,ab,_,_,_,_,_,_,_,_⟩,⟨(by show(b:I)+1=((b+1:N):I);omega),R,R,R,R,R,R,R,R⟩,R,(by show b+1<=m;omega),a1,Z_,a2,HT⟩,SA⟩
 have ch:¬(b:I)<m:=O
 have bt:b=m:=O;have Z_:Q (f=mf x):=Y (by have:=HE.o;rw[bt,kL]at this;exact this)
 subst bt;have i:=Y p.o;rw[Z_.o]at i;clear p HE au;go_wp2_with fail
 exact HX.o _ _ _ _ _ _ _ _ _ _ _ _ _ (by rfl) i.o
theorem O9:Jl:=by
 intro v L n c M t z K H_ av w hF m C aa ha T F V s;have o:Q (SP w (D (D (D w (Sc #[H v,Hl L n c] 25)) (Sc #[H 0,Hq] 25)) (Sc #[H v,Hq] 25)) v L n c K H_ M Hq 0):=Y (by
  refine⟨Xb (Xb (Xb Rf _) _) _,((Bx.new _ _ _).box _).box _,?_,?_,dA⟩
  .have:=(Bx.new (D w (Sc #[H v,Hl L n c] 25)) #[H 0,Hq] 25).box (Sc #[H v,Hq] 25);rwa[aO]at this
  have:=Bx.new (D (D w (Sc #[H v,Hl L n c] 25)) (Sc #[H 0,Hq] 25)) #[H v,Hq] 25
  rwa[aO,aO]at this)
 go_in
 go_wp2_with fail
 refine X3 t av (by exact Y λc x W v w l=>l) hF m s F ?_ (by rfl) o;intro vg W_ P w1 f g;obtain⟨A_,rfl⟩:=pN f;simp only[wK,Nat.reduceAdd];clear f o;obtain⟨j,k,ab,rfl,d⟩:=g.turn hF.o m.o C V;have p:=Y d;clear g d;go_wp2_with fail
 refine Ye t (by exact Y λc x W v w l=>l) (Y hF.at_) m s ha T ?_ _ _ (by rfl) p;intro X_ Y_ R_ S_ T_ U_ V_ i L_ I_ y P u f d;obtain⟨A_,rfl⟩:=pN f;simp only[wK,Nat.reduceAdd];clear f p;have a:=Y d;clear d;have Z_:=Bx.c a.4 0;have f1:=Bx.c a.4 1;have M_:=Bx.c a.3 0;have N_:=Bx.c a.3 1;have rz:=Bx.thaw a.3;go_wp2;have r:∀q,(i q).1≠0->q≠Z w.1+1:=λq B e=>B (by rw[e,a.10 _ O O]);have J_:XW u (Se (Se u (A (Z w.1+1) 0) (H v)) (A (Z w.1+1) 1) (Hl j n k)) i i z (λb=>b≠Z w.1+1):=((XW.put _ _ _).trans (XW.put _ _ _)).weak λ_ h=>⟨h,h⟩;refine YL (v:=Sa #[H v,Hl j n k]) ⟨i,j,k,L_,I_,y,R,?_,?_,?_,?_⟩;·exact(a.1.setCell (by show Z w.1<=Z w.1+1;omega) _).setCell (by show Z w.1<=Z w.1+1;omega) _
 .exact a.6.sp J_ 0 (λb g _ _ _=>r b g) (bC λb e=>r b (by obtain e|e:=e<;>rw[e]<;>simp))
 .intro b h;exact a.8 b<|by simpa [World.setCell]using h
 exact a.9
theorem LH:oO 0:=by
 intro V d n c xs lab base pv iv av sb B s s2 w wx b xb hb pa np pc ia ni ic c3 c9 tl hl a;obtain⟨f,rfl⟩:=SM hl;simp only[wK,Nat.reduceAdd];clear hl;obtain⟨q0,q1,q2,q3,q4,q5,qz,f0,f1,fz,HSBX⟩:=a.qs;obtain⟨hn,h1,hn2,hbs,hbb,hV,HSMB,HAG,hbn,HNP,HNI,hni2,hnp2,HSX,HRW,HIV,HP,HZP⟩:=a
 conv=>arg 2;whnf
 have e0:((0:I)==0)=So:=vY;have e1:((0:I)==1)=Sn:=vY;have e2:((0:I)==2)=Sn:=vY;have e3:((0:I)==3)=Sn:=vY;have e4:((0:I)==4)=Sn:=vY;have e5:((0:I)==5)=Sn:=vY;have e6:((0:I)==6)=Sn:=vY;have e7:((0:I)==7)=Sn:=vY;have HPK:Q (L5 V xs s=⟨((V:I)+(iw s2 2).1*2-1),xs.set b xs[b]⟩):=Y (by rw[HP.o,aM vY];simp[R6,t8];exact fK hb);clear HP
 go_upto_if 26 with fail
 go_cut [] from 10 to 180 (fun wz=>Q (jd w wz lab base sb B (iw s2 2).2 ((V:I)+(iw s2 2).1*2-1) d n c xs pv iv av b xb (X pa np pc) xs[b] (av b)))
 case first =>
  go_wp2_with fail
  refine Y7 (fun _=>True) (fun ig=>?_);refine Xn 0 ?_;refine Xn 2 ?_;refine eS (rs:=[1,3]) vZ sP ?_;refine(bQ R (fun K hK=>?_) (bQ R (fun K hK=>?_) dY))
  focus
   go_simp;refine hK _ _ kP (fun ig=>?_);clear hK
   try simp only[xX]
   refine Xs 3 (fun K hK=>?_);go_simp
   go_at_call 12
   refine(ki s2 2 _ (Y HSX.drew.8) O O).mono ?_;rintro e w5 ⟨rfl,hd,hg⟩;have HQ5:=Y (HSX.drew.call hg hd);have hl5:=kr s2 (n:=2) O;clear hd hg;have k0:=Bx.c HQ5.17 0;have kz:=Bx.thaw HQ5.17;generalize (iw s2 2).1=r5 at *;have hw1:S6.wrap (r5*2)=r5*2:=by rw[dF];omega
   have hw2:S6.wrap ((V:I)+r5*2)=(V:I)+r5*2:=by rw[dF];omega
   have hw3:S6.wrap ((V:I)+r5*2-1)=(V:I)+r5*2-1:=by rw[dF];omega
   refine hK _ _ JV (fun ig=>?_);clear hK;refine Xn 4 ?_
  rotate_left
  focus
   go_simp
   go_at_call 12
   refine(ki s2 2 _ (Y HSX.drew.8) O O).mono ?_;rintro e w5 ⟨rfl,hd,hg⟩;have HQ5:=Y (HSX.drew.call hg hd);have hl5:=kr s2 (n:=2) O;clear hd hg;have k0:=Bx.c HQ5.17 0;have kz:=Bx.thaw HQ5.17;generalize (iw s2 2).1=r5 at *;have hw1:S6.wrap (r5*2)=r5*2:=by rw[dF];omega
   have hw2:S6.wrap ((V:I)+r5*2)=(V:I)+r5*2:=by rw[dF];omega
   have hw3:S6.wrap ((V:I)+r5*2-1)=(V:I)+r5*2-1:=by rw[dF];omega
   refine hK _ _ JV (fun ig=>?_);clear hK
   try simp only[xX]
   refine Xn 4 ?_;refine Xs 1 (fun K hK=>?_);go_simp;refine hK _ _ kP (fun ig=>?_);clear hK
  all_goals (
   refine Xn 5 ?_;refine Xn 6 ?_;refine Xn 7 ?_;refine Xs 8 (fun K hK=>?_);go_simp;refine hK _ _ kP (fun ig=>?_);clear hK;refine Yq ?_;clear ig
   go_wp2
   go_meet;exact Y (HQ5.putV _))
 case rest =>
  have HSY:=Y hcut.o;clear hcut HSX HRW q0 q1 q2 q3 q4 q5 qz f0 f1 fz;generalize wc=wy at *
  go_upto_if 72 with fail
  go_cut [] from 10 to 180 (fun wz=>Q (vL wz wy))
  case first =>
   go_wp2
   go_meet;exact Y R
  case rest =>
   have e:wc=wy:=hcut.o;subst e;rename_i aK;exact aK _ _ (tX V av _ _ _ R hn hb HIV HPK (Y (by rw[HZP.o,HNI.o];simp[Ss,RT,ny])) 0 hni2 vY HSY)
theorem Ll:oO 1:=by
 intro V L n c a aa M pv P av sb C z s2 ab K b xb r pa np pc W ni T c3 J_ tl g F;obtain⟨N_,rfl⟩:=SM g;simp only[wK,Nat.reduceAdd];clear g;obtain⟨u,q1,q2,v,w,x,y,p,f1,q,F_⟩:=F.qs;obtain⟨s,O_,T_,S_,Q_,P_,H_,D_,R_,E_,i,t,U_,f,k,d,e,m⟩:=F
 conv=>arg 2;whnf
 have K_:((1:I)==0)=Sn:=vY;have e1:((1:I)==1)=So:=vY;have e2:((1:I)==2)=Sn:=vY;have e3:((1:I)==3)=Sn:=vY;have e4:((1:I)==4)=Sn:=vY;have e5:((1:I)==5)=Sn:=vY;have L_:((1:I)==6)=Sn:=vY;have M_:((1:I)==7)=Sn:=vY;have j:Q (L5 V a z=⟨(V:I),a.set b ⟨a[b].1,a[b].2,⟨a[b].3.1,a[b].3.a,(n:I),a[b].3.4⟩⟩⟩):=Y (by rw[e.o,aM vY];simp[R6,t8]);clear e;have l:=Y (f.putT ⟨a[b].3.1,a[b].3.a,(n:I),a[b].3.4⟩ 4 (H n) (by rw[d.o];rfl));clear f k
 go_upto_if 72 with fail
 generalize Se K _ _=h at*;clear u q1 q2 v w x y p f1 q
 go_upto_if 72 with fail
 go_cut []from 10 to 180 λB=>Q<|vL B h
 case first=>
  go_wp2;go_meet;exact Y R
 have o:wc=h:=hcut.o;subst o;rename_i aK;exact aK _ _<|tX V av _ _ _ R s r d j (Y<|by rw[m.o,i.o];simp[Ss,RT,ny]) 1 t vY l
theorem Mg:oO 2:=by
 intro V K aa c a L M pv P av sb B y s2 ab z b xb q pa np pc T ni W c3 I_ tl g C;obtain⟨M_,rfl⟩:=SM g;simp only[wK,Nat.reduceAdd];clear g;obtain⟨t,q1,q2,u,v,w,x,o,f1,p,E_⟩:=C.qs;obtain⟨r,N_,S_,R_,P_,O_,F_,C_,Q_,D_,i,s,T_,f,k,d,e,m⟩:=C
 conv=>arg 2;whnf
 have J_:((2:I)==0)=Sn:=vY;have e1:((2:I)==1)=Sn:=vY;have e2:((2:I)==2)=So:=vY;have e3:((2:I)==3)=Sn:=vY;have e4:((2:I)==4)=Sn:=vY;have e5:((2:I)==5)=Sn:=vY;have K_:((2:I)==6)=Sn:=vY;have L_:((2:I)==7)=Sn:=vY;have j:Q (L5 V a y=⟨(V:I),a.set b ⟨a[b].1,a[b].2,⟨a[b].3.1,a[b].3.a,a[b].3.3,a[b].3.3⟩⟩⟩):=Y (by rw[e.o,aM vY];simp[R6,t8]);clear e;have l:=Y (f.putT ⟨a[b].3.1,a[b].3.a,a[b].3.3,a[b].3.3⟩ 5 (H a[b].3.3) (by rw[d.o];rfl));clear f k
 go_upto_if 72 with fail
 generalize Se z _ _=h at*;clear t q1 q2 u v w x o f1 p
 go_upto_if 72 with fail
 go_cut []from 10 to 180 λF=>Q<|vL F h
 case first=>
  go_wp2;go_meet;exact Y R
 have n:wc=h:=hcut.o;subst n;rename_i aK;exact aK _ _<|tX V av _ _ _ R r q d j (Y<|by rw[m.o,i.o];simp[Ss,RT,ny]) 2 s vY l
theorem WS:oO 3:=by
 intro V K aa c a L M pv P av sb B y s2 ab z b xb q pa np pc T ni W c3 I_ tl g C;obtain⟨M_,rfl⟩:=SM g;simp only[wK,Nat.reduceAdd];clear g;obtain⟨t,q1,q2,u,v,w,x,o,f1,p,E_⟩:=C.qs;obtain⟨r,N_,S_,R_,P_,O_,F_,C_,Q_,D_,i,s,T_,f,k,d,e,m⟩:=C
 conv=>arg 2;whnf
 have J_:((3:I)==0)=Sn:=vY;have e1:((3:I)==1)=Sn:=vY;have e2:((3:I)==2)=Sn:=vY;have e3:((3:I)==3)=So:=vY;have e4:((3:I)==4)=Sn:=vY;have e5:((3:I)==5)=Sn:=vY;have K_:((3:I)==6)=Sn:=vY;have L_:((3:I)==7)=Sn:=vY;have j:Q (L5 V a y=⟨(V:I),a.set b ⟨a[b].1,a[b].2,⟨a[b].3.1,a[b].3.a,0,a[b].3.4⟩⟩⟩):=Y (by rw[e.o,aM vY];simp[R6,t8]);clear e;have l:=Y (f.putT ⟨a[b].3.1,a[b].3.a,0,a[b].3.4⟩ 4 (H 0) (by rw[d.o];rfl));clear f k
 go_upto_if 72 with fail
 generalize Se z _ _=h at*;clear t q1 q2 u v w x o f1 p
 go_upto_if 72 with fail
 go_cut []from 10 to 180 λF=>Q<|vL F h
 case first=>
  go_wp2;go_meet;exact Y R
 have n:wc=h:=hcut.o;subst n;rename_i aK;exact aK _ _<|tX V av _ _ _ R r q d j (Y<|by rw[m.o,i.o];simp[Ss,RT,ny]) 3 s vY l
theorem QF:oO 4:=by
 intro V W ab c a aa L pv iv av sb F B s2 ac M b xb u pa np pc ia ni ic c3 M_ tl l K;obtain⟨Q_,rfl⟩:=SM l;simp only[wK,Nat.reduceAdd];clear l;obtain⟨x,q1,q2,y,z,P,f,s,f1,t,J_⟩:=K.qs;obtain⟨v,R_,Y_,W_,T_,S_,K_,H_,U_,I_,n,w,Z_,e,p,g,h,r⟩:=K
 conv=>arg 2;whnf
 have N_:((4:I)==0)=Sn:=vY;have e1:((4:I)==1)=Sn:=vY;have e2:((4:I)==2)=Sn:=vY;have e3:((4:I)==3)=Sn:=vY;have e4:((4:I)==4)=So:=vY;have e5:((4:I)==5)=Sn:=vY;have O_:((4:I)==6)=Sn:=vY;have P_:((4:I)==7)=Sn:=vY;have o:Q (L5 V a B=⟨(V:I),a.set b ⟨a[b].1,a[b].2,⟨(iw s2 5).1,a[b].3.a,a[b].3.3,a[b].3.4⟩⟩⟩):=Y (by rw[h.o,aM vY];simp[R6,t8]);clear h;go_wp2_with fail
 refine YU (ki s2 5 M (Y e.8) O O) λC⟨j,k⟩=>?_;have d:=Y<|e.call k j;clear j k e p x q1 q2 y z P f s f1 t;have q:=Y (d.putT ⟨(iw s2 5).1,a[b].3.a,a[b].3.3,a[b].3.4⟩ 2 (H (iw s2 5).1) (by rw[g.o];rfl));have q2:=Bx.c d.21 2;have f:=Bx.thaw d.21
 go_upto_if 72 with fail
 generalize Se C _ _=m at*;clear q2 f d
 go_upto_if 72 with fail
 go_cut []from 10 to 180 λT=>Q<|vL T m
 case first=>
  go_wp2;go_meet;exact Y R
 have i:wc=m:=hcut.o;subst i;rename_i aK;exact aK _ _<|tX V av _ _ _ R v u g o (Y<|by rw[r.o,n.o];simp[Ss,RT,ny]) 4 w vY q
theorem OQ:oO 5:=by
 intro V K aa c a L M pv P av sb B y s2 ab z b xb q pa np pc T ni W c3 I_ tl g C;obtain⟨M_,rfl⟩:=SM g;simp only[wK,Nat.reduceAdd];clear g;obtain⟨t,q1,q2,u,v,w,x,o,f1,p,E_⟩:=C.qs;obtain⟨r,N_,S_,R_,P_,O_,F_,C_,Q_,D_,i,s,T_,f,k,d,e,m⟩:=C
 conv=>arg 2;whnf
 have J_:((5:I)==0)=Sn:=vY;have e1:((5:I)==1)=Sn:=vY;have e2:((5:I)==2)=Sn:=vY;have e3:((5:I)==3)=Sn:=vY;have e4:((5:I)==4)=Sn:=vY;have e5:((5:I)==5)=So:=vY;have K_:((5:I)==6)=Sn:=vY;have L_:((5:I)==7)=Sn:=vY;have j:Q (L5 V a y=⟨(V:I),a.set b ⟨a[b].1,a[b].2,⟨a[b].3.1,(V:I),a[b].3.3,a[b].3.4⟩⟩⟩):=Y (by rw[e.o,aM vY];simp[R6,t8]);clear e;have l:=Y (f.putT ⟨a[b].3.1,(V:I),a[b].3.3,a[b].3.4⟩ 3 (H V) (by rw[d.o];rfl));clear f k
 go_upto_if 72 with fail
 generalize Se z _ _=h at*;clear t q1 q2 u v w x o f1 p
 go_upto_if 72 with fail
 go_cut []from 10 to 180 λF=>Q<|vL F h
 case first=>
  go_wp2;go_meet;exact Y R
 have n:wc=h:=hcut.o;subst n;rename_i aK;exact aK _ _<|tX V av _ _ _ R r q d j (Y<|by rw[m.o,i.o];simp[Ss,RT,ny]) 5 s vY l
theorem LX:oO 6:=by
 intro V G_ ar c_ a ap y_ pv iv av sb Z_ T s2 az W_ b xb C O_ q P_ ia ni ic c3 c9 tl n c;obtain⟨ad,rfl⟩:=SM n;simp only[wK,Nat.reduceAdd];clear n;obtain⟨h,q1,q2,p,w,y,i,z,f1,B,ab⟩:=c.qs;obtain⟨F,h1,am,al,af,hV,ac,aa,aj,j,t,K,ao,d,v,s,k,x⟩:=c
 conv=>arg 2;whnf
 have e0:((6:I)==0)=Sn:=vY;have e1:((6:I)==1)=Sn:=vY;have e2:((6:I)==2)=Sn:=vY;have e3:((6:I)==3)=Sn:=vY;have e4:((6:I)==4)=Sn:=vY;have e5:((6:I)==5)=Sn:=vY;have e6:((6:I)==6)=So:=vY;have e7:((6:I)==7)=Sn:=vY;have u:Q (L5 V a T=⟨(V:I),a.set b ⟨a[b].1++[⟨0,[]⟩],a[b].2,a[b].3⟩⟩):=Y (by rw[k.o,aM vY];simp[R6]);clear k;have e:=Y d.5.1;rw[<-j.o]at e;go_wp2_with (at_builtin;refine YC (n:=q) (xs:=jw (av b) a[b].1) Ag e ?_ (hs:=oN d.13))
 intro v8 L f m M l;obtain⟨g,aq,o⟩:=d.push m f (by rw[j.o]) (by rw[aO];exact l);obtain⟨g8,c8,rfl,P,W⟩:=Xm f O;clear P W M l f m h q1 q2 p w y i z f1 B d v e;have h:=Bx.c g 0;have i:=Bx.thaw g;have w_:=Y o;clear g o
 go_upto_if 72 with fail
 generalize Se L _ _=r at*;clear h i
 go_upto_if 72 with fail
 go_cut []from 10 to 180 λY_=>Q<|vL Y_ r
 case first=>
  go_wp2;go_meet;exact Y R
 have z_:wc=r:=hcut.o;subst z_;rename_i aK;exact aK _ _<|tX V av _ _ _ R F C s u (Y<|by rw[x.o,t.o];simp[Ss,RT,ny]) 6 K vY w_
theorem QY:oO 7:=by
 intro V M am c m al g pv iv av sb T s s2 w d b xb W pa np pc ia ni ic c3 P tl l F;obtain⟨T_,rfl⟩:=SM l;simp only[wK,Nat.reduceAdd];clear l;obtain⟨z,q1,q2,K,B,C,L,j,f1,t,N_⟩:=F.qs;obtain⟨hn,h,ab,x,Y_,U_,O_,I_,aa,L_,K_,ac,ad,a,M_,J_,n,r⟩:=F
 conv=>arg 2;whnf
 have Q_:((7:I)==0)=Sn:=vY;have e1:((7:I)==1)=Sn:=vY;have e2:((7:I)==2)=Sn:=vY;have e3:((7:I)==3)=Sn:=vY;have e4:((7:I)==4)=Sn:=vY;have e5:((7:I)==5)=Sn:=vY;have R_:((7:I)==6)=Sn:=vY;have S_:((7:I)==7)=So:=vY;have o:Q (L5 V m s=⟨(V:I),[]⟩):=Y (by rw[n.o,aU R]);have u:=Bx.thaw<|a.17.box (Sc #[] 52);have Z_:=a.17.lt;have aj:=a.13;have af:=a.19.lt;have e:Q (Bx (D (Se d (A (Z w.1) 1) (Hl (Z d.1) 0 0)) (Sc #[] 52)) (Z w.1) #[H V,Hl (Z d.1) 0 0] 25/\Bx (D (Se d (A (Z w.1) 1) (Hl (Z d.1) 0 0)) (Sc #[] 52)) (Z w.1+1) #[H 0,Hq] 25/\Sw g d (D (Se d (A (Z w.1) 1) (Hl (Z d.1) 0 0)) (Sc #[] 52))):=Y ⟨by have:=(a.17.set 1<|Hl (Z d.1) 0 0).box (Sc #[] 52);simpa using this,(a.19.other O).box _,vT ((dC g d).setCell (p:=A (Z w.1) 1) x _) (by simp[World.setCell];omega) _⟩
 go_upto_region 21 with fail
 clear z q1 q2 K B C L j f1 t u;generalize (D (Se d _ _) _)=w7 at*;have j:=Bx.c e.1 0;have f1:=Bx.c e.1 1;have E_:=Bx.c e.2.1 0;have F_:=Bx.c e.2.1 1;have rz:=Bx.thaw e.2.1;go_wp2;have p:sE V m s=s2:=by rw[r.o];simp[Ss]
 rw[o.o,p];refine YL (v:=Sa #[H V,Hl (Z d.1) 0 0]) ⟨_,0,0,R,R,?_⟩;have k:g<=Z w.1+1:=O;have f:=(e.2.2.setCell (p:=A (Z w.1+1) 0) k (H V)).setCell (p:=A (Z w.1+1) 1) k (Hl (Z d.1) 0 0);exact⟨a.8.keep<|f.mono a.9,λy i=>Sz i sP,λy i=>Sz i sP,G f.1 a.os,G f.2 a.11,G f.3 a.12,aJ a.13 f.4,λq h v=>G (f.5 q h) (a.14 q h v)⟩
end Go.Proofs.YtcncjgijikoapaaGreatDoor
