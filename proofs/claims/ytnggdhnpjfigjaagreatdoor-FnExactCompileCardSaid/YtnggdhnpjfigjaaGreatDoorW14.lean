import Derived.Test.YtnggdhnpjfigjaaGreatDoorRFN
import Derived.Deep.LoopGhost
import Derived.WalkMore
import Derived.Deep.QuietTactic
namespace Go.Proofs.YtnggdhnpjfigjaaGreatDoor
set_option maxHeartbeats 4000000
set_option maxRecDepth 100000
open _root_ renaming Array.size->Z,List.length->J,Nat->N,Int->I,rfl->R,Option.some->S,Option.none->U,List.range->Rg,Bool.true->So,Bool.false->Sn,absurd->Sz
open Go renaming World.cell?->E,World.alloc->D,World.setCell->Se,World.ownsRow->Sx,IntKind.i64->S6,RowKit.Below->Sw,Ending.returned->Rt,undef->Su,Calls->Sk,Obj.cells->Sc
open Value renaming slice->X,int->Si,bool->Sb,tuple->St,agg->Sa,string->Sg
open Go.RowKit Go.Proofs.Tryz
variable{t:I}{n m k B g c:N}{w v u:Ub}{p:Uy}{M:Vp}{h:Vu}{d:Vv}{l:Wc}{x:Wi}{f F:Wk}{q:Xe}
def XR(w:Ub)(L B:N)(d:Uy)(a:Tm):Prop :=
 ∀i (h:i<J a),∃b o,d=S ⟨b,o,U⟩/\(L<=b/\b<B)/\∃c e,E w ⟨b,o+i,U⟩=S (X c (J a[i]) e)/\Xf w L B c a[i]
theorem XR.keepS{w':Ub}{c:Tm}(h:XR w n m p c)(k:YA n m w w'):XR w' n m p c:=λl j=>by
 let⟨b,o,f,a,d,e,g,i⟩:=h l j;exact⟨b,o,f,a,d,e,G (Xc<|k b a.1 a.2) g,i.keepS k⟩
theorem XR.keep{w':Ub}{a:Tm}(h:XR w n m p a)(k:Sw m w w'):XR w' n m p a:=h.keepS<|YA.of_below k
theorem XR.mono{a:Tm}(h:XR w n m p a)(o:k<=n)(l:m<=B):XR w k B p a:=λj i=>by
 let⟨c,q,e,r,b,d,f,g⟩:=h j i;exact⟨c,q,e,O,b,d,f,g.mono o l⟩
def YT(w:Ub)(b n:N)(P:Tj)(a:Vu):Prop :=
 w.rowIs b 35 n a/\(∀i,i<n->Sx w (b+1) 2 1 (a i) (J (P i)) ((P i).map (Si S6)))/\(∀i j,i<n->j<n->i≠j->(a i).ownBlock=U\/(a i).ownBlock≠(a j).ownBlock)
theorem YT.alloc{P:Tj}(a:YT w n m P h)(o:Obj):YT (D w o) n m P h:=⟨a.1.alloc o,λi b=>(a.2.1 i b).alloc o,a.2.2⟩
theorem YT.below{P:Tj}(a:YT w n m P h)(k:Sw (Z w.1) w v):YT v n m P h:=by
 refine⟨a.1.of_block<|k.5 _ a.1.lt,λi d=>?_,a.2.2⟩;refine(a.2.1 i d).kept (row:=U) ⟨k.1,k.2,k.3,k.4,λb c _=>k.5 b c⟩ ?_;cases (h i).ownBlock<;>simp
theorem YT.congr{P P':Tj}(a:YT w n m P h)(e:∀i,i<m->P i=P' i):YT w n m P' h :=
 ⟨a.1,λi b=>by rw[<-e i b];exact a.2.1 i b,a.2.2⟩
theorem YT.step{P:Tj}(a:YT w n m P h)(s:k<m)(x:I)(d:Uj)(r:w.grownBy v (h k).ownBlock)(u:Sx v (n+1) 2 1 d (J (P k)+1) ((P k).map (Si S6)++[Si S6 x]))(p:d.ownBlock=(h k).ownBlock\/d.ownBlock=S (Z w.1)):
 YT (Se v ⟨n,k,U⟩ d) n m (λi=>if i=k then P k++[x]else P i) (λi=>if i=k then d else h i):=by
 have y:=a.1.of_block (r.5 _ a.1.lt λe=>by have:=((a.2.1 k s).lt _ e.symm).1;omega);refine⟨y.set k d,λi b=>?_,λi j b g f=>?_⟩
 .refine ownsRow_setCell_below ?_ SG _;by_cases e:i=k
  .subst e;simp only[gG,aQ,bA,bO,bG,eH,fZ];exact u
  simp only[e,fD];exact(a.2.1 i b).kept r (a.2.2 i k b s e)
 have fresh:∀c,c<m->(h c).ownBlock=U\/(h c).ownBlock≠S (Z w.1):=λc t=>by
  by_cases e:(h c).ownBlock=S (Z w.1);·have:=((a.2.1 c t).lt _ e).2;omega
  exact aZ e
 by_cases e1:i=k
 .subst e1;have e2:¬j=i:=λe=>f e.symm;simp only[gG,e2,fD];obtain q|q:=p;·rw[q];exact a.2.2 i j b g f
  right
  rw[q];intro o;obtain l|l:=fresh j g;·rw[l]at o;cases o
  exact l o.symm
 simp only[e1,fD];by_cases e2:j=k
 .subst e2;simp only[gG];obtain q|q:=p;·rw[q];exact a.2.2 i j b g f
  rw[q];exact fresh i b
 simp only[e2,fD];exact a.2.2 i j b g f
theorem YT.ints{P:Tj}(a:YT w n m P h):XR w n (Z w.1) (S ⟨n,0,U⟩) ((Rg m).map P):=λi b=>by
 simp only[bK,gI]at b;let⟨d,c,e,ha⟩:=Xk<|a.2.1 i b;refine⟨n,0,R,⟨aA,a.1.lt⟩,d,c,?_,?_⟩
 .simp only[cM,dW,aV];rw[a.1.cell b,e]
 simp only[cM,dW];exact ha.mono O<|aA
theorem RG:(prog.info? 35).map (λi=>(i.8,i.3,i.4))=S (S Hq,1,24):=vZ
theorem YT.born(w:Ub)(n:N):YT (D w<|.cells (madeCells #[X U 0 0] n) 35) (Z w.1) n (λ_=>[]) (λ_=>X U 0 0) :=
 ⟨dG _ _ _ _,λ_ _=>dA,λ_ _ _ _ _=>bC R⟩
structure U8(w w':Ub)(n:N)(gs:Wk):Prop where
 os:w'.4=w.4
 tape:w'.2=w.2
 output:w'.5=w.5
 size:Z w.1<=Z w'.1
 block:∀k,k<Z w.1->(∀i,i<n->k≠gs i)->w'.1[k]?=w.1[k]?
theorem U8.refl(w:Ub)(n:N)(a:Wk):U8 w w n a:=⟨R,R,R,aA,λ_ _ _=>R⟩
theorem U8.below(h:U8 w v n f)(k:Sw (Z v.1) v u):U8 w u n f:=⟨G k.1 h.1,G k.2 h.2,G k.3 h.3,aJ h.4 k.4,λj a b=>G (k.5 j<|aX a h.4) (h.5 j a b)⟩
theorem U8.grown(h:U8 w v n f)(k:v.grownBy u (S<|f m))(c:m<n):U8 w u n f:=⟨G k.1 h.1,G k.2 h.2,G k.3 h.3,aJ h.4 k.4,λj a b=>G (k.5 j (aX a h.4) λe=>b m c<|by injection e) (h.5 j a b)⟩
def Xi(l:Wa):Wc:=l.map Int.ofNat
def Yv(w:Ub)(P:Vv)(c:Uy)(a:Wc):Prop :=
 ∀i (h:i<J a),∃b o,c=S ⟨b,o,U⟩/\(P b/\b<Z w.1)/\E w ⟨b,o+i,U⟩=S (Si S6 a[i])
def TA(w:Ub)(P:Vv)(d:Uy)(a:Tm):Prop :=
 ∀i (h:i<J a),∃b o,d=S ⟨b,o,U⟩/\(P b/\b<Z w.1)/\∃c e,E w ⟨b,o+i,U⟩=S (X c (J a[i]) e)/\Yv w P c a[i]
theorem cy.keep{w':Ub}(h:cy n w m k B f F M)(b:Sw (Z w.1) w w'):cy n w' m k B f F M :=
 ⟨h.1.of_block<|b.5 _ h.1.lt,λi a=>(h.2 i a).of_block (b.5 _ (h.2 i a).lt),h.3,h.o⟩
theorem cy.wrote{b:Wk}(h:cy n w m k B f F M)(c:g<k)(d:w.grownBy v (S<|f g))(j:Cp v (f g) B (F g) b):cy n v m k B f F (λi=>if i=g then b else M i):=by
 refine⟨h.1.of_block (d.5 _ h.1.lt λe=>h.o g c<|by injection e with e;exact e.symm),λi a=>?_,h.3,h.o⟩;by_cases e:i=g
 .subst e;simpa using j
 simp only[aM e];exact(h.2 i a).of_block (d.5 _ (h.2 i a).lt λe2=>e<|by injection e2 with e2;exact h.3 i g a c e2)
theorem cy.apart{b:Wk}(h:cy n w m k B F b M)(c:U8 w v k f)(d:∀i,i<k->m≠f i)(e:∀i j,i<k->j<k->F i≠f j):cy n v m k B F b M :=
 ⟨h.1.of_block<|c.5 _ h.1.lt d,λi a=>(h.2 i a).of_block (c.5 _ (h.2 i a).lt λj g=>e i j a g),h.3,h.o⟩
theorem P4(az fa t:N)(hf:(az=121/\fa=123)\/az=225/\fa=239)(Z_ o0 o c0:N)(d:Wa)(L1 B1:N)(sa:Uy)(ns cs:N)(a:List Wa)(L J_ n K:N)(c aa s ar:Wk)(P T:Vp)(w:Ub)(cb:Q (Xf w L1 B1 (S ⟨Z_,o0,U⟩) (Xi d)))(h0:Q (o=J d))(b7:o<=1000)(e7:0<o)(ep:Q (TA w (λl=>∀i,i<n->l≠c i) sa (a.map Xi)))(hs:Q (ns=J a))(ej:Q (J a=n))(hK:K<=100)(bn:B1<=Z w.1)(HI:Q (cy t w L n K c s P))(HT:Q (cy t w J_ n K aa ar T))(eq:Q (XQ P))(V_:Q (XQ T))(d3:Q (∀i,i<n->J_≠c i))(d4:Q (∀i ci,i<n->ci<n->aa i≠c ci))(ho:Q (∀b∈d,b<n))(eo:Q (∀cj∈a,J cj<=2000/\∀t∈cj,t<n)):
 Sk prog az #[Hm Z_ o0 o c0,X sa ns cs,Hl L n n,Hl J_ n n] w λe M=>e=Rt (St #[])/\U8 w M n c/\∃Ws,XQ Ws/\cy t M L n K c s Ws/\∀b,b<n->∀x,x<64*K->(Xh (Ws b) x=So↔Sp P T (·∈d) (λb=>a.getD b []) b x):=by
 have cq:=Y (P8 fa (by obtain h|h:=hf<;>simp[h.2]));obtain⟨rfl,rfl⟩|⟨rfl,rfl⟩:=hf
 go_in
 rotate_left
 go_in
 rotate_left
 all_goals (
  go_wp2_with fail
  go_step3
  go_wp2_with fail
  refine(Aq cb (Y (by have:=h0.o;simp[Xi];omega)) O bn).mono ?_;rintro e w1⟨v1,rfl,bq,ei,a2⟩;obtain⟨P_,k1,rfl,b1,e0⟩:=Xm a2 (by have:=h0.o;simp[Xi];omega);have ad:=Y bq;have al:=Y a2;have Q_:J (Xi d)=o:=by have:=h0.o;simp[Xi];omega
  rw[Q_]at al;clear bq a2 ei;go_wp2_with fail
  have ez:P_<Z w1.1:=b1.2;have ey:Z w.1<=P_:=b1.1;refine(TM O (Y Q_.symm) al).mono ?_;rintro e B⟨rfl,b3,ca⟩;have a8:Q (Sw (Z w.1) w B):=Y (ad.grown b3 ad.4 λl e=>by cases e;omega);have bd:=Y ca;clear b3 ca al ad;go_wp2_with fail
  have eb:(λx9:Ub=>Q (Sw (Z B.1) B x9)/\E x9 (A (Z B.1) 0)=S (Hm Z_ o0 o c0)/\E x9 (A (Z B.1) 1)=S (Hl P_ o k1)) (D B<|.cells #[Hm Z_ o0 o c0,Hl P_ o k1] 35):=⟨Y<|Xb Rf _,sP,sP⟩;generalize D B _=wa at*;let⟨Y_,ac,cc⟩:=eb;have X_:Q (Sw (Z w.1) w wa):=Y<|Xg a8 Y_;have V:J (Xi d).reverse=o:=by rw[jQ];exact Q_
  have bb:Q (Xf wa (Z w.1) (Z B.1) (S ⟨P_,0,U⟩) (Xi d).reverse):=Y (by
   have h:=bd.o;rw[<-V]at h;let⟨a',c',e',eg⟩:=Xk h;injection e' with e1;subst e1;exact eg.keep Y_)
  refine(Wb (Y<|cb.keep (X_.mono bn)) bb (Y Q_.symm) (Y V.symm) b7 b7 O (oN X_.4) Y_.4 ac cc).mono ?_;rintro e N_⟨v3,rfl,a1,a4⟩;have g:Q (Sw (Z w.1) w N_):=Y<|Xg X_ a1;have eR:Xi d++(Xi d).reverse=Xi (d++d.reverse):=by simp[Xi]
  rw[eR]at a4;have ec:J (d++d.reverse)=2*o:=by have:=h0.o;simp;omega
  have a0:Q (∀b,b∈d++d.reverse↔b∈d):=Y λb=>sP;generalize d++d.reverse=C at*;have b8:J (Xi C)=J C:=by simp[Xi]
  let⟨a3,c3,e3,b4⟩:=Xk a4;rw[b8]at e3;subst e3;have c6:=Y b4;have dw:Q (Z wa.1<=Z N_.1/\Z w.1<=Z wa.1):=Y ⟨a1.4,X_.4⟩;clear a1 a4 eR ac cc bb Y_ bd a8 b4;have di:=Y<|HI.keep (g);have dn:=Y<|HT.keep (g);have bo:0<J C:=O;have eu:J C<=2000:=O;clear ec Q_ V b8;have cw:Q (∀i,i<n->c i<Z w.1):=Y λi E_=>(HI.2 i E_).lt;go_wp2_with fail
  go_step3
  go_wp2
  go_loopg [10] (JI P K n) λl qv wr=>∃(q:N)(W:Vp),qv=H q/\q<J C/\Q (U8 N_ wr n c)/\Q (cy t wr L n K c s W)/\Q (XQ W)/\Q (JI W K n<=l)/\Q (∀b x,Xh (P b) x=So->Xh (W b) x=So)/\Q (∀b x,Xh (W b) x=So->Sp P T (·∈d) (λb=>a.getD b []) b x)/\Q (Ov T K (λb=>a.getD b []) W C q 0)
  case atStart=>exact⟨0,P,R,bo,Y<|U8.refl _ _ _,di,eq,Y<|aA,Y λ_ _ h=>h,Y λ_ _ h=>Sp.init h,Y Vz⟩
  case round=>
   obtain⟨q0,W0,rfl,ac,cn,df,du,c8,cz,dl,ck⟩:=hrel;go_wp2_with fail
   generalize wr=wo at*
   go_loopw [10,26] (λqv H_ wr=>∃(q p:N)(W:Vp),qv=H q/\q<J C/\H_=H p/\p<=J C/\Q (U8 N_ wr n c)/\Q (cy t wr L n K c s W)/\Q (XQ W)/\Q (JI W K n<gk\/(JI W K n<=gk/\q=q0+p))/\Q (∀b x,Xh (P b) x=So->Xh (W b) x=So)/\Q (∀b x,Xh (W b) x=So->Sp P T (·∈d) (λb=>a.getD b []) b x)/\Q (Ov T K (λb=>a.getD b []) W C q p)) λ_ H_ _=>J C-(intOf H_).toNat
   case atStart=>exact⟨q0,0,W0,R,ac,R,aN,cn,df,du,Y<|aZ ⟨c8,O⟩,cz,dl,ck⟩
   case round=>
    obtain⟨q,p,W,rfl,hq,rfl,hp,y,HS,C_,HM,bc,bf,HC⟩:=hrel;by_cases S_:p<J C
    .obtain⟨br,e8,rfl,ef,bm⟩:=c6 p (by simpa [Xi]using S_);have ct:Q (U8 w wr n c):=Y ⟨G y.1 g.1,G y.2 g.2,G y.3 g.3,aJ g.4 y.4,λl u D_=>G (y.5 l (aX u g.4) D_) (g.5 l u)⟩;have er:=G (Xc (y.5 br ef.2 λi E_ e=>by have:=cw i E_;have:=dw.o;omega)) bm;have bp:(Xi C)[p]'(by simpa [Xi]using S_)=((C[p]:N):I):=by simp[Xi]
     rw[bp]at er;have m:C[p]<n:=ho _<|(a0 _).1 (aH S_);have ee:Q (C[p]∈d):=Y<|(a0 _).1 (aH S_);have ab:C[p]<J a:=oN ej.o;let⟨bs,os,en,bv,dz,et,es,b6⟩:=ep C[p] (by simpa using ab);subst en;have d0:=G (Xc<|ct.5 bs bv.2 bv.1) es;have cf:J ((a.map Xi)[C[p]]'(by simpa using ab))=J a[C[p]]:=by simp[Xi]
     rw[cf]at d0;have be:=Y<|eo.o a[C[p]] (aH ab);have e6:=be.1;have ba:Q (a.getD C[p] []=a[C[p]]):=Y (by simp[ab]);have cm:Q (∀W',(∀i x,x<64*K->Xh (W' i) x=Xh (W i) x)->PN T K (λb=>a.getD b []) W C[p]->Ov T K (λb=>a.getD b []) W' C (q+1) (p+1)):=Y λW' e hb=>Br HC e S_ hb;have ev:C[p]<ns:=oN hs.o;have c7:Q (Yv w (λl=>∀i,i<n->l≠c i) dz (Xi a[C[p]])):=Y (by simpa using b6);clear bm es b6 bp cf;generalize ed:C[p]=b at*;clear ed;generalize a[b]=f at*;go_wp2_with fail
     generalize wr=e9 at*
     go_loopw [13,35] (λgv H_ wq=>∃r:N,r<=J f/\H_=H r/\gv=Sb (E5 T K b (f.take r) (W,Sn)).2/\Q (U8 N_ wq n c)/\Q (cy t wq L n K c s (E5 T K b (f.take r) (W,Sn)).1)) λ_ H_ _=>J f-(intOf H_).toNat
     case atStart=>exact⟨0,aN,R,R,y,HS⟩
     obtain⟨r,hr,rfl,rfl,j,k⟩:=hrel;by_cases V:r<J f
     .have cv:Q (U8 w wr n c):=Y ⟨G j.1 g.1,G j.2 g.2,G j.3 g.3,aJ g.4 j.4,λl u D_=>G (j.5 l (aX u g.4) D_) (g.5 l u)⟩;obtain⟨b5,o5,rfl,bt,bl⟩:=c7 r (by simpa [Xi]using V);have e5:=G (Xc<|cv.5 b5 bt.2 bt.1) bl;have cg:(Xi f)[r]'(by simpa [Xi]using V)=((f[r]:N):I):=by simp[Xi]
      rw[cg]at e5;have a6:f[r]<n:=be.2 _<|aH V;have ap:=Y<|dn.apart j d3 d4;have bh:=Y<|Ay (T:=T) (K:=K) (b:=b) V (W,Sn);have bi:=Y<|TG (T:=T) (K:=K) (b:=b) (f.take r) (W,Sn) C_;clear bl cg;generalize f[r]=v at*;generalize E5 T K b (f.take r) (W,Sn)=sq at*;let⟨O_,gq⟩:=sq;dsimp only at*;have k1:=k.1.cell m;have k2:=k.1.cell a6;have k3:=ap.1.cell m;have a7:=Y (cq.o (c b) (c v) (aa b) K (s b) (s v) (ar b) (O_ b) (O_ v) (T b) wr.drew (Y<|bi.o b) (Y<|bi.o v) (Y<|V_.o b) O (Y<|(k.2 b m).drew) (Y<|(k.2 v a6).drew) (Y<|(ap.2 b m).drew) (d4 b b m m) (Y λe=>by rw[k.3 v b a6 m e]));have dk:Q (cy t wr.drew L n K c s O_):=Y ⟨k.1,λi E_=>(k.2 i E_).drew,k.3,k.o.o⟩;have cr:Q (U8 N_ wr.drew n c):=Y ⟨j.1,j.2,j.3,j.4,j.5⟩;have aj:Q (L<Z wr.1/\J_<Z wr.1):=Y ⟨k.1.lt,ap.1.lt⟩;generalize Ix (O_ b) (O_ v) (T b) K=g5 at*;go_wp2_with fail
      refine Y7 (λM=>E M (A L b)=S (Hl (c b) K (s b))/\E M (A L v)=S (Hl (c v) K (s v))/\E M (A J_ b)=S (Hl (aa b) K (ar b))) λhHeld=>?_;refine Xn 0 ?_;refine Xn 1 ?_;refine Xn 2 ?_;refine Xn 3 ?_;refine Xn 4 ?_;refine Xn 5 ?_;refine Xn 6 ?_;refine Xn 7 ?_;refine Xn 8 ?_;refine Xn 9 ?_;refine Xn 10 ?_;refine Xn 11 ?_;refine Xs 12 λK hK=>?_;go_simp
      first|go_at_call 123|go_at_call 239
      refine a7.mono ?_;rintro e w5⟨rfl,L_,ce⟩;have dj:=Y<|dk.wrote m L_ ce;have co:=Y<|cr.grown L_ m;have j1:=G (Xc<|L_.5 L aj.1 λe=>k.o.o b m<|by injection e with e;exact e.symm) k1;have j2:=G (Xc<|L_.5 L aj.1 λe=>k.o.o b m<|by injection e with e;exact e.symm) k2;have j3:=G (Xc<|L_.5 J_ aj.2 λe=>d3 b m<|by injection e) k3;clear L_ ce a7;refine hK _ _ ⟨j1,j2,j3⟩ λhHeld=>?_;clear hK;refine Xn 13 ?_;cases g5
      focus
       refine wpAnyH_take (i:=14) (v:=?_) R vZ vZ vZ (λ_ _ _ h=>h) (bC ⟨by rfl,?_⟩) (by assumption) ?_;rotate_left;intro w hSw;(try dsimp only at hSw);go_simp;try with_reducible rfl
      rotate_left
      focus
       refine wpAnyH_take (i:=14) (v:=Su) R vZ vZ vZ (λ_ _ _ h=>h) (aZ ⟨by rfl,R⟩) (by assumption) ?_
      all_goals (
       simp only[xX];refine Xn 15 ?_;refine Xn 16 ?_;refine Yq ?_;go_wp2
       exact⟨⟨r+1,O,gM,by rw[bh.o];rfl,Y co.o,Y<|by rw[bh.o];exact dj⟩,SA⟩)
     have em:r=J f:=O;have ds:Q (f.take r=f):=Y<|aW O;rw[ds.o]at k |-;clear em;have aq:=Y<|TG (T:=T) (K:=K) (b:=b) f (W,Sn) C_;have db:=Y<|JJ (T:=T) (K:=K) (b:=b) V_ f (W,Sn) C_;have ao:=Y (T9 (I_:=P) (T:=T) (K:=K) (b:=b) (ord:=(·∈d)) (src:=λb=>a.getD b []) V_ ee f (W,Sn) C_ (λt U_=>by show t∈a.getD b [];rw[ba.o];exact U_) bf);have dd:=Y<|T6 (T:=T) (K:=K) (b:=b) V_ f (W,Sn) C_;have cx:=Y<|UB (T:=T) (K:=K) (b:=b) V_ f (W,Sn) C_ R;have dc:=Y λi (E_:i≠b)=>TN (T:=T) (K:=K) E_ f (W,Sn);generalize E5 T K b f (W,Sn)=sq at*;let⟨z,ea⟩:=sq;dsimp only at*;have af:Q (∀b x,Xh (P b) x=So->Xh (z b) x=So):=Y λb x h=>db b x<|bc b x h;cases ea with
     |true=>
      have c9:=Y<|tx (K:=K) dc (cx R) n m;go_wp2;exact⟨⟨0,p+1,z,R,bo,gM,O,j,k,aq,Y (bC (by have:=c9.o;obtain h|h:=HM.o<;>omega)),af,ao,Y Vz⟩,SA⟩
     |false=>
      let⟨a5,bx⟩:=dd R;have a9:Q (Ov T K (λb=>a.getD b []) z C (q+1) (p+1)):=Y (cm.o z a5 (λt U_ x F=>by have ch:t∈a.getD b []:=U_;rw[ba.o]at ch;exact bx t ch x F));have da:Q (JI z K n=JI W K n):=Y (Vo n λi _=>Vl λx F=>a5 i x F);clear a5 bx;by_cases cd:q+1=J C
      .have el:(((q:I)+1)==(J C:I))=So:=by simp;omega
       have cl:Q (Ov T K (λb=>a.getD b []) z C (J C) (p+1)):=Y (by rw[<-cd];exact a9);clear cd;go_wp2
       go_end0
       refine⟨R,⟨G j.1 g.1,G j.2 g.2,G j.3 g.3,aJ g.4 j.4,λl u D_=>G (j.5 l (aX u g.4) D_) (g.5 l u)⟩,z,aq,k,λb _ x F=>?_⟩;exact We af ao (λb hb t U_ x F u D_=>B6 cl O ((a0 b).2 hb) t U_ x F u D_) F
      have el:(((q:I)+1)==(J C:I))=Sn:=by simp;omega
      go_wp2;exact⟨⟨q+1,p+1,z,gM,O,gM,O,j,k,aq,Y (by rw[da.o];obtain h|⟨h,h'⟩:=HM.o;exact bC h;exact aZ ⟨h,O⟩),af,ao,a9⟩,SA⟩
    have ek:p=J C:=O;subst ek;go_wp2_with fail
    go_roundg (JI W K n)
    case measure=>obtain h|⟨_,h⟩:=HM.o;exact h;omega
    case rel=>exact⟨q,W,R,hq,y,HS,C_,Y<|aA,bc,bf,Y<|Bj HC hq⟩)
theorem Mw{f:Tm}(j:XR w n m p f)(a:∀b,n<=b->b<m->d b/\b<Z w.1):TA w d p f:=λq l=>by
 let⟨b,s,i,c,g,h,e2,k⟩:=j q l;refine⟨b,s,i,a b c.1 c.2,g,h,e2,λr o=>?_⟩;let⟨b2,t,e3,e,e4⟩:=k r o;exact⟨b2,t,e3,a b2 e.1 e.2,e4⟩
theorem AC(k o d c0:N)(e:Wa)(q g:N)(p:Uy)(m s:N)(c:List Wa)(r h:N)(z f n K:N)(a l:Wk)(C T:Vp)(w:Ub)(L:Q (Xf w q g (S ⟨k,o,U⟩) (Xi e)))(B:Q (d=J e))(P:d<=1000)(F:0<d)(V:Q (XR w r h p<|c.map Xi))(M:Q (m=J c))(W:Q (J c=n))(hK:K<=100)(C_:g<=Z w.1)(V_:h<=Z w.1)(z_:Q (Ye w z n K a C))(A_:Q (Ye w f n K l T))(P_:Q (XQ C))(Q_:Q (XQ T))(d2:Q (∀i,i<n->¬(r<=a i/\a i<h)))(d3:Q (∀i,i<n->f≠a i))(d4:Q (∀i u,i<n->u<n->l i≠a u))(J_:Q (∀b∈e,b<n))(N_:Q (∀v∈c,J v<=2000/\∀R_∈v,R_<n)):
 Sk prog 225 #[Hm k o d c0,X p m s,Hl z n n,Hl f n n] w λt y=>t=Rt (St #[])/\U8 w y n a/\∃j,XQ j/\Ye y z n K a j/\∀b,b<n->∀x,x<64*K->(Xh (j b) x=So↔Sp C T (·∈e) (λb=>c.getD b []) b x) :=
 (P4 _ 239 110 (aZ ⟨R,R⟩) k o d c0 e q g p m s c z f n K a l _ _ C T w L B P F (Y<|Mw V λb S_ U_=>⟨λi D_ t=>d2 i D_ O,O⟩) M W hK C_ z_ A_ P_ Q_ d3 d4 J_ N_)
abbrev Az:=@P4 121 123 113<|bC ⟨R,R⟩
theorem Ww{a:Za}{p:Ph}:XZ (a++[p])=XZ a+(1+J p.2):=by simp[XZ]
theorem Ux:Xo (x++[q])=Xo x+(1+J q.2+XZ q.1):=by simp[Xo,Ul]
theorem tI(a:Za):J a<=XZ a:=by
 induction a with
 |nil=>simp
 |cons p a b=>simp only[XZ,eH,kX,bA]at b |-;omega
theorem Wm(a:Za)(k:N):XZ (a.take k)<=XZ a:=Tw _ _ _
theorem Up(a:Wi)(k:N):Xo (a.take k)<=Xo a:=Tw _ _ _
theorem tB(L B:N)(ha:Q (Xp w L B p x))(s:Q (n=J x))(hn:n<=1048576)(hs:Xo x<=1048576)(y:B<=Z w.1):
 Sk prog 82 #[Sa #[H t,X p n c]] w λe z=>e=Rt (H<|Xo x)/\Sw (Z w.1) w z:=by
 go_in
 go_wp2;have l:=Xb (Below.refl (Z w.1) w) (Sc #[H t,X p n c] 40);have V:E (D w<|.cells #[H t,X p n c] 40) (A (Z w.1) 1)=S (X p n c):=sP;generalize D w _=w1 at*
 go_loop [3,4] (λu i=>∃k:N,k<=n/\i=H k/\u=H (Xo (x.take k):N)) λ_ i=>n-(intOf i).toNat
 case atStart=>exact⟨0,aN,R,R⟩
 obtain⟨k,M,rfl,rfl⟩:=hrel;by_cases P:k<n
 .have q:k<J x:=oN s.o;obtain⟨T,ac,rfl,⟨_,W⟩,m⟩:=ha k q;let⟨pa,pc,ia,ic,K_,e1,_,r,_⟩:=m.keep (l.mono y) O;have v:=Y r;have a:Q (Xo (x.take<|k+1)=Xo (x.take k)+(1+J x[k].2+XZ x[k].1)):=by show _=_;rw[X7 q,Ux]
  have b:=Up x<|k+1;have A_:=Y b;have O_:Xo (x.take k)+(1+J x[k].2+XZ x[k].1)<=1048576:=oN a.o;have ab:J x[k].1<=1048576:=oN<|tI x[k].1;clear m r b;generalize x[k]=C at*;generalize g:Xo (x.take k)=K at*;have D_:=Y g;clear g;go_wp2
  go_loop [3,5] (λu i=>∃j:N,j<=J C.1/\i=H j/\u=H (K+(1+J C.2)+XZ (C.1.take j):N)) λ_ i=>J C.1-(intOf i).toNat
  case atStart=>exact⟨0,aN,R,by simp[XZ];try omega⟩
  obtain⟨j,W_,rfl,rfl⟩:=hrel;by_cases o:j<J C.1
  .obtain⟨I_,o',rfl,⟨_,U_⟩,G_,J_,M_,N_,_⟩:=v j o;have d:Q (XZ (C.1.take<|j+1)=XZ (C.1.take j)+(1+J C.1[j].2)):=by show _=_;rw[X7 o,Ww]
   have f:=Wm C.1<|j+1;have Q_:XZ (C.1.take j)+(1+J C.1[j].2)<=XZ C.1:=oN d.o;have C_:=Y f;clear f;generalize C.1[j]=P_ at*;generalize h:XZ (C.1.take j)=T_ at*;have F_:=Y h;clear h;go_wp2
   go_round
   case rel=>exact⟨j+1,O,gM,by rw[d.o];go_num⟩
   simp[intOf];omega
  have e:=aW (l:=C.1) (i:=j) O;have F:=Y e;clear e;go_wp2
  go_round
  case rel=>exact⟨k+1,O,gM,by rw[a.o,F.o];go_num⟩
  simp[intOf];omega
 have e:=aW (l:=x) (i:=k) (oN s.o);have F:=Y e;clear e;go_wp2;go_ret;exact⟨f9 (by rw[F.o]),l⟩
theorem tG{F:Fn}(a:0<=F.1)(b:F.1<=2000)(c:1<=J F.2)(d:J F.2<=1000)(e:Xo F.2<=4000):Y6 F=So:=by simp[Y6, *]
theorem UE{F:Fn}(a:4000<Xo F.2):Y6 F=Sn:=by simp[Y6];omega
theorem Wt{F:Fn}(h:¬(0<=F.1/\F.1<=2000/\1<=J F.2/\J F.2<=1000)):Y6 F=Sn:=by simp[Y6];omega
theorem Uz(ha:Q (Xp w m k p x))(h:Q (n=J x))(hn:n<=1048576)(hs:Xo x<=1048576)(Y_:k<=Z w.1):
 Sk prog 106 #[Sa #[H t,X p n c]] w λe w'=>e=Rt (Sb (Y6 ⟨t,x⟩))/\Sw (Z w.1) w w':=by
 by_cases B:0<=t/\t<=2000/\1<=n/\n<=1000
 .let⟨V_,d1,d2,d3⟩:=B
  go_in
  go_wp2
  go_loopw [3,31] (λu i wr=>∃a:N,a<=n/\i=H a/\u=H (Xo (x.take a):N)/\Xo (x.take a)<=4000/\Sw (Z w.1) w wr) λ_ i _=>n-(intOf i).toNat
  case atStart=>exact⟨0,aN,R,R,by simp[Xo],Xb Rf _⟩
  obtain⟨a,hk,rfl,rfl,C,g⟩:=hrel;by_cases aq:a<n
  .have P:a<J x:=oN h.o;obtain⟨ac,a0,rfl,⟨_,ao⟩,F⟩:=ha a P;let⟨T,V,L,M,e0,e1,⟨e2,e3,e4,e5⟩,K,_⟩:=F.keep (g.mono Y_) O;have P_:=Y<|K.keep (Xb (Below.refl (Z wr.1) wr) (Sc #[X T (J x[a].1) V,X L (J x[a].2) M,H x[a].3.1,H x[a].3.a,H x[a].3.3,H x[a].3.4] 71) |>.mono (oN g.4));have f:Q (Xo (x.take<|a+1)=Xo (x.take a)+(1+J x[a].2+XZ x[a].1)):=by show _=_;rw[X7 P,Ux]
   have W:=Up x<|a+1;have v:=Y W;have aj:Xo (x.take a)+(1+J x[a].2+XZ x[a].1)<=1048576:=oN f.o;have ar:J x[a].1<=1048576:=oN<|tI x[a].1;have o:=Y<|Xb g (Sc #[X T (J x[a].1) V,X L (J x[a].2) M,H x[a].3.1,H x[a].3.a,H x[a].3.3,H x[a].3.4] 71);have az:=g.4;clear F K W;generalize x[a]=y at*;generalize C_:Xo (x.take a)=z at*;have HS:=Y C_;clear C_;go_wp2
   go_loopw [3,44] (λu i wi=>∃j:N,j<=J y.1/\i=H j/\u=H (z+(1+J y.2)+XZ (y.1.take j):N)/\Sw (Z w.1) w wi) λ_ i _=>J y.1-(intOf i).toNat
   case atStart=>exact⟨0,aN,R,by simp[XZ];try omega,o⟩
   obtain⟨j,hj,rfl,rfl,d⟩:=hrel;by_cases H_:j<J y.1
   .obtain⟨b,l,rfl,⟨_,ap⟩,R_,U_,y_,z_,_⟩:=P_ j H_
    have ad:E wr (A b<|l + j*2)=S (H y.1[j].1):=by
     have s:=(o.cell (p:=A b<|l + j*2) (by show b < _;omega));exact oB d (G s.symm y_) (by show b < _;omega)
    have af:E wr (A b<|l + j*2+1)=S (X R_ (J y.1[j].2) U_):=by
     have s:=(o.cell (p:=A b<|l + j*2+1) (by show b < _;omega));exact oB d (G s.symm z_) (by show b < _;omega)
    have B_:Q (XZ (y.1.take<|j+1)=XZ (y.1.take j)+(1+J y.1[j].2)):=by show _=_;rw[X7 H_,Ww]
    have W_:=Wm y.1<|j+1;have al:XZ (y.1.take j)+(1+J y.1[j].2)<=XZ y.1:=oN B_.o;clear W_ y_ z_;generalize y.1[j]=Q_ at*;generalize D_:XZ (y.1.take j)=T_ at*;have HT:=Y D_;clear D_;by_cases r:4000<z+(1+J y.2)+(T_+(1+J Q_.2))
    .go_wp2;go_ret;exact⟨Xl (UE (by have:=f.o;have:=v.o;show 4000<Xo x;omega)).symm,Xb d _⟩
    go_wp2;exact⟨⟨j+1,O,gM,by rw[B_.o];go_num,Xb d _⟩,SA⟩
   have E_:=Y<|aW (l:=y.1) (i:=j) O;by_cases r:4000<z+(1+J y.2)+XZ (y.1.take j)
   .go_wp2;go_ret;exact⟨Xl (UE (by have:=f.o;have:=v.o;have e:=E_.o;rw[e]at r;show 4000<Xo x;omega)).symm,d⟩
   go_wp2;have e:=E_.o;rw[e]at r |-;exact⟨⟨a+1,O,gM,by rw[f.o];go_num,by rw[f.o];omega,d⟩,SA⟩
  go_wp2;go_ret;have e:=aW (l:=x) (i:=a) (oN h.o);rw[e]at C;exact⟨Xl (tG V_ d1 (by have:=h.o;show 1<=J x;omega) (by have:=h.o;show J x<=1000;omega) C).symm,g⟩
 have Z_:Q (Y6 ⟨t,x⟩=Sn):=Wt (F:=⟨t,x⟩) (by have:=h.o;show ¬(0<=t/\t<=2000/\1<=J x/\J x<=1000);omega);have ab:t<0\/(0<=t/\2000<t)\/(0<=t/\t<=2000/\n<1)\/(0<=t/\t<=2000/\1<=n/\1000<n):=O;clear B;obtain q|⟨q,d1⟩|⟨q,d1,d2⟩|⟨q,d1,d2,d3⟩:=ab
 all_goals
  go_in
  go_wp2;go_ret;exact⟨Xl Z_.symm,Xb Rf _⟩
theorem W4(ha:Q (Xp w m k p x))(B:Q (n=J x))(hn:n<=1048576)(C:Q (∀b∈x,J b.2<=1048576))(F:k<=Z w.1)(K:Q (Uw w)):
 Sk prog 108 #[Sa #[H t,X p n c]] w λl M=>l=Rt (Sb (Z0 ⟨t,x⟩))/\Sw (Z w.1) w M:=by
 go_in
 go_wp2
 go_loopw [10] (λi wr=>∃a:N,a<=n/\i=H a/\Sw (Z w.1) w wr/\Z w.1<Z wr.1/\E wr (A (Z w.1) 0)=S (H t)/\Q ((x.take a).all (λb=>b.2.all<|Yw t 10)=So)) λi _=>n-(intOf i).toNat
 case atStart=>exact⟨0,aN,R,Xb Rf _,sP,sP,R⟩
 obtain⟨a,hk,rfl,g,L,T,u⟩:=hrel;by_cases ad:a<n
 .have f:a<J x:=oN B.o;obtain⟨T_,aj,rfl,⟨_,aa⟩,y⟩:=ha a f;let⟨pa,pc,ia,ic,D_,e1,⟨e2,e3,e4,e5⟩,_,V⟩:=y.keep (g.mono F) O;have W:=Y λh=>JN (p:=λb:Xe=>b.2.all<|Yw t 10) (xs:=x) (k:=a) f h;have N_:=Y λh=>XY (p:=λb:Xe=>b.2.all<|Yw t 10) f u h;have ac:=C _<|aH f;have C_:=Y V;have af:=g.4;generalize x[a]=z at*;go_wp2
  go_loopw [17] (λi S_=>∃j:N,j<=J z.2/\i=H j/\Sw (Z wr.1) wr S_/\Q ((z.2.take j).all (Yw t 10)=So)) λi _=>J z.2-(intOf i).toNat
  case atStart=>exact⟨0,aN,R,Xb Rf _,R⟩
  obtain⟨j,hj,rfl,e,v⟩:=hrel;have o:=Xg g e;have E_:=oB e T L;have M_:Z w.1<Z wr.1:=oN e.4;by_cases r:j<J z.2
  .obtain⟨U_,o',rfl,⟨_,ab⟩,z_⟩:=C_ j r;let⟨V_,W_,Y_,Z_,g4⟩:=z_.keep e O;have s:=Y<|K.keep o;have K_:=Y λh=>JN (p:=Yw t 10) (xs:=z.2) (k:=j) r h;have O_:=Y λh=>XY (p:=Yw t 10) r v h;generalize z.2[j]=P at*;cases hr:Yw t 10 ⟨P.1,P.2,P.a,P.b,P.5⟩
   .have d:=Y hr;go_wp2_with fail
    refine(TI ?q1).mono ?_
    case q1=>exact s.keep<|Xb Rf _
    rintro l R_⟨rfl,q⟩;rw[Xw d];go_wp2;go_ret;exact⟨Xl (Xw W<|Xw K_ d).symm,Xg (Xb o _) q⟩
   have d:=Y hr;go_wp2_with fail
   refine(TI ?q1).mono ?_
   case q1=>exact s.keep<|Xb Rf _
   rintro l R_⟨rfl,q⟩;rw[Xw d];go_wp2;exact⟨⟨j+1,O,gM,Xg (Xb e _) q,Xw O_ d⟩,SA⟩
  go_wp2;exact⟨⟨a+1,O,gM,o,M_,E_,Xw N_<|YE (xs:=z.2) (k:=j) O v⟩,SA⟩
 go_wp2;go_ret;exact⟨Xl (YE (xs:=x) (k:=a) (oN B.o) u).symm,g⟩
def mp(a:Wi)(n:N):Prop:=∀x∈a,(∀t∈x.3.tg,0<=t/\t<(n:I))/\x.3.tg.Nodup
def Yk(b:Wi)(k:N)(a:Wc)(i:N):Wc:=AQ (b.take k) 0 i++(if a.contains (i:I)then [(k:I)]else [])
theorem J5:Yk x n [] m=AQ (x.take n) 0 m:=by simp[Yk]
theorem TD(i:N)(a:n<J x):Yk x n x[n].3.tg i=AQ (x.take<|n+1) 0 i:=by
 unfold Yk;rw[X7 a,ZK];simp[jZ<|dU a]
theorem Uu(a:Wi)(k i:N)(h:(n:I)∉l):Yk a k (l++[(n:I)]) i=if i=n then Yk a k l n++[(k:I)]else Yk a k l i:=by
 unfold Yk;by_cases e:i=n
 .subst e;simp[h]
 have b:(l++[(n:I)]).contains (i:I)=l.contains (i:I):=by
  rw[eQ];simp only[eY,bU,cS];constructor
  .rintro(h|h);·exact h
   omega
  exact bC
 rw[aM e,b]
theorem UW(a:Wi)(k i:N)(b:Wc)(h:k<=J a):J (Yk a k b i)<=k+1:=by
 unfold Yk;have:=YO (i:I) (a.take k) 0;simp only[dH]at this;rw[aQ];split<;>simp<;>omega
theorem KF(ab:I)(c_:N)(ha:Q (Xp w m k p x))(L:Q (n=J x))(hn:n<=1048576)(hB:k<=Z w.1)(e:Q (mp x n)):
 Sk prog 64 #[Sa #[H ab,X p n c_]] w λf w'=>∃c,f=Rt (Hl (Z w.1+1) n n)/\Sw (Z w.1) w w'/\YT w' (Z w.1+1) n (λi:N=>AQ x 0 (i:I)) c:=by
 obtain⟨i0,ar,a8,a9,ba⟩:=fX RH;have bp:=fM (P:=prog) 123 35 Hq 24 underlying123 RG R S6 S6 n O O
 go_in
 go_wp2
 go_loopw [15] (λi wr=>∃a:N,a<=n/\i=H a/\Sw (Z w.1) w wr/\Q (∃c,YT wr (Z w.1+1) n (Yk x a []) c)) λi _=>n-(intOf i).toNat
 case atStart=>exact⟨0,aN,R,Xb (Xb Rf _) _,⟨_,by have:=YT.born (D w<|.cells #[H ab,X p n c_] 40) n;rw[aO]at this;exact this⟩⟩
 obtain⟨a,hk,rfl,y,v⟩:=hrel;by_cases bo:a<n
 .have F:a<J x:=oN L.o;obtain⟨bf,b1,rfl,⟨_,bi⟩,R_⟩:=ha a F;obtain⟨pa,pc,ia,ic,e0,e1,⟨e2,e3,e4,e5⟩,_,_⟩:=R_.keep (y.mono hB) O;have a7:=Y λi=>TD i F;obtain⟨S_,T_⟩:=e _<|aH F;have af:=Y S_;have aj:=Y T_;clear R_ S_ T_;generalize x[a]=P at*;go_wp2_with fail
  refine(J4 P.3 _).mono ?_;rintro f o⟨a1,c1,rfl,P_,V_⟩;have Q_:=Xg (Xb (Below.refl (Z wr.1) wr) _) P_;have bb:=P_.4;simp at bb;have bx:Z wr.1<Z o.1:=O;have N_:=Y V_;have bh:Z w.1+1<Z wr.1:=by obtain⟨c,d⟩:=v.o;exact d.1.lt
  have HR:Q (∃c,YT o (Z w.1+1) n (Yk x a []) c/\∀i g,i<n->(c i).ownBlock=S g->g<=Z wr.1\/Z o.1<=g):=by
   obtain⟨c,d⟩:=v.o;exact⟨c,d.below Q_,λi g u e=>by have:=((d.2.1 i u).lt g e).2;omega⟩
  have HW:=Y<|Xg y Q_;have bv:J P.3.tg<=2:=by unfold Yj.tg;split<;>(try split)<;>simp
  generalize hT:P.3.tg=b at*;clear hT V_ v e0 e1 e2 e3 e4 e5 y;simp only[aO]at N_;generalize hM:Z wr.1=M at*;clear hM;go_wp2
  go_loopw [24] (λi C=>∃j:N,j<=J b/\i=H j/\Sw (Z w.1) w C/\Z o.1<=Z C.1/\Q (Xf C (M+1) (Z o.1) a1 b)/\Q (∃c,YT C (Z w.1+1) n (Yk x a<|b.take j) c/\∀i g,i<n->(c i).ownBlock=S g->g<=M\/Z o.1<=g)) λi _=>J b-(intOf i).toNat
  case atStart=>exact⟨0,aN,R,HW,aA,N_,HR⟩
  obtain⟨j,s,rfl,K,br,W_,T⟩:=hrel;by_cases V:j<J b
  .obtain⟨b',o',rfl,_,bm⟩:=W_ j V
   obtain⟨a4,bt⟩:=af _<|aH V;have a2:Q (b[j]∉b.take j):=by
    intro hm;obtain⟨b0,a0,Y_⟩:=bR hm;simp only[dH]at a0;rw[jG]at Y_;have:=(List.getElem_inj aj).1 Y_;omega
   have a5:Q (b.take (j+1)=b.take j++[b[j]]):=X7 V;obtain⟨c,d,O_⟩:=T.o;have B:=Y O_;clear O_;obtain⟨t,a6⟩:=bX a4;generalize b[j]=be at*;subst a6;have l:t<n:=O;have ao:=d.1.cell l;have ap:=d.1.frozen t;have bq:=UW x a t (b.take j) (oN L.o);have h:=Y d;clear d T;go_wp2_with (at_builtin;refine bT _ R _ _ 35 R (Z w.1+1+1) 2 i0 (H 0) 1 8 underlying35 ar a8 a9 ba R vY _ _ _ R ((h.alloc _).2.1 t l) (A (Z wr.1) 0) 1 1 [H a] R R ?c1 ?c2 ?c3 ?c4 ?c5 ?_)
   case c1=>
    intro j bc s
    match j,s with
    |0,s=>simp at s;subst s;simp[Addr.add]
   case c2=>intro bc Z_;simp at Z_;subst Z_;rfl
   case c3=>unfold maxLen;omega
   case c4=>omega
   case c5=>have:=h.1.lt;simp;omega
   intro v1 z W q _ C_;obtain⟨av,cv,J_,_⟩:=Xk (xs:=Yk x a (b.take j) t++[(a:I)]) (by rw[Yl];exact W);have a3:=Y ((h.alloc<|.cells #[H a] 2).step l a v1 q W (by rw[aO];exact C_));have D_:z.1[Z w.1+1]?=(D wr<|.cells #[H a] 2).1[Z w.1+1]?:=YJ q ((h.alloc<|.cells #[H a] 2).2.1 t l) O (by have:=h.1.lt;simp;omega);have al:=Y (Xy (Xb K<|.cells #[H a] 2) q ((h.alloc<|.cells #[H a] 2).2.1 t l) O (by have:=K.4;simp;omega));have bl:E z (A (Z w.1+1) t)=S (c t):=by rw[Xc D_];exact((h.alloc<|.cells #[H a] 2).1).cell l
   have bn:z.frozen? (A (Z w.1+1) t)=Sn:=by rw[bJ (w:=D wr<|.cells #[H a] 2) (a:=(A (Z w.1+1) t)) D_];exact((h.alloc<|.cells #[H a] 2).1).frozen t
   have aq:=q.4;simp at aq;have I_:YA (M+1) (Z o.1) wr z:=λr q1 q2=>G (q.5 r SB λf=>by have:=B t r l f.symm;omega) (Below.heap_alloc _ _ _ O);have bd:=Y I_;have az:=Y<|W_.keepS I_;have ad:=Y C_;have HV:=Y J_;clear I_;clear W q C_ D_ ao ap;rw[J_];clear J_;go_wp2;have aa:=HV.o;rw[aQ,bA,bO,aV]at aa;rw[<-aa];refine⟨⟨j+1,O,gM,al.setCell SG _,SF,az.keepS ((YA.refl _ _ _).setCell (bC<|by dsimp only;omega) _),⟨_,(a3).congr λi _=>?_,λi g u e=>?_⟩⟩,SA⟩;·rw[a5.o,Uu x a i a2.o]
   by_cases f:i=t
   .subst f;simp only[gG]at e;obtain r|r:=ad.o;·exact B i g u<|by rw[<-r];exact e
    rw[r]at e;have:=gQ e;omega
   simp only[f,fD]at e;exact B i g u e
  have ac:=Y<|aW (l:=b) (i:=j) O;go_wp2;refine⟨⟨a+1,O,gM,K,?_⟩,SA⟩;obtain⟨c,d,_⟩:=T.o;exact⟨c,d.congr λi _=>by rw[ac.o,a7.o,J5]⟩
 go_wp2;go_ret;obtain⟨c,d⟩:=v.o;have f:=aW (l:=x) (i:=a) (oN L.o);exact⟨c,R,y,d.congr (P':=λi:N=>AQ x 0 (i:I)) λi _=>by rw[J5,f]⟩
theorem VG(v:I)(c:N)(L B:N)(ha:Q (Xp w L B p x))(k:Q (n=J x))(j:n<=1048576)(f:B<=Z w.1)(i:Q (mp x n)):
 Sk prog 64 #[Sa #[H v,X p n c]] w λe a=>∃b d,e=Rt (X b n d)/\Sw (Z w.1) w a/\XR a (Z w.1) (Z a.1) b ((Rg n).map λl:N=>AQ x 0 (l:I)) :=
 (KF v c ha k j f i).mono (by
  rintro e a⟨o,rfl,g,h⟩;exact⟨_,_,R,g,h.ints.mono O<|aA⟩)
theorem Zr(d:I->N->Ph->Bool)(F:Fn):∀(b:Wi)(a:N),Zi d F b a=So↔∀j (h:j<J b),b[j].1.all (d F.1 (J (F.preds ((a+j:N):I))))=So
 |[],_=>by simp[Zi]
 |x::b,a=>by
  simp only[Zi,bY,Zr d F b<|a+1];constructor
  .rintro⟨f,g⟩ j c;cases j with
   |zero=>exact f
   |succ j=>
    have:=g j SK;have e:a+1+j=a+(j+1):=O;rw[e]at this;exact this
  intro h;refine⟨h 0 sP,λj c=>?_⟩;have:=h (j+1) SK;have e:a+1+j=a+(j+1):=O;rw[e];exact this
theorem Wg(a:I->N->Ph->Bool)(F:Fn)(c:k<J F.2)(h:F.2[k].1.all (a F.1 (J (F.preds (k:I))))=Sn):Zi a F F.2 0=Sn:=by
 rw[lY];intro b;have:=(Zr a F F.2 0).1 b k c;rw[aV,h]at this;cases this
theorem AG(ha:Q (Xp w m k p x))(M:Q (n=J x))(hn:n<=1048576)(hl:Q (∀ap∈x,J ap.1<=1048576/\∀bb∈ap.1,J bb.2<=1048576))(W_:k<=Z w.1)(hg:Q (mp x n)):
 Sk prog 109 #[Sa #[H t,X p n c]] w λg w'=>g=Rt (Sb (KL ⟨t,x⟩))/\Sw (Z w.1) w w':=by
 go_in
 go_wp2_with fail
 refine(VG t c m k ?q1 M hn ?q2 hg).mono ?_
 case q1=>exact ha.keep (Xb Rf _ |>.mono W_)
 case q2=>simp;omega
 rintro g o⟨pa,pc,rfl,z,ao⟩;have W:=Xg (Xb (Below.refl (Z w.1) w) _) z;have a9:=z.4;simp at a9;let⟨K,a1⟩:=NC z;have k0:E o (A (Z w.1) 0)=S (H t):=by rw[K _ _ sP];simp
 have k1:E o (A (Z w.1) 1)=S (X p n c):=by rw[K _ _ sP];simp
 have HA:=Y<|ha.keep (W.mono W_);have a0:=Y ao;have r:=Y W;clear K a1 ao z ha W;go_wp2
 go_loopw [15] (λi wr=>∃a:N,a<=n/\i=H a/\Sw (Z o.1) o wr/\Q (∀j (h:j<J x),j<a->x[j].1.all (ZX t (J (AQ x 0 (j:I))))=So)) λi _=>n-(intOf i).toNat
 case atStart=>exact⟨0,aN,R,Rf,λj _ h=>Sz h O⟩
 obtain⟨a,hk,rfl,d,Z_⟩:=hrel;by_cases a3:a<n
 .have L:a<J x:=oN M.o;obtain⟨bd,bt,rfl,⟨_,bh⟩,hc⟩:=HA a L;let⟨bv,bx,ia,ic,R_,d1,⟨d2,d3,d4,d5⟩,hp,_⟩:=hc;have e0:=G (XU d O) R_;have e1:=G (XU d O) d1;have e2:=G (XU d O) d2;have e3:=G (XU d O) d3;have e4:=G (XU d O) d4;have e5:=G (XU d O) d5;let⟨bn,aj⟩:=hl _<|aH L;have az:=Y aj;have a4:Q (x[a].1.all (ZX t (J (AQ x 0 (a:I))))=Sn->KL ⟨t,x⟩=Sn):=λh=>Wg ZX ⟨t,x⟩ (k:=a) L h;have al:a<J ((Rg n).map λi:N=>AQ x 0 (i:I)):=by simpa using a3
  obtain⟨gb,go,rfl,⟨_,bl⟩,a',c',u,a2⟩:=a0 a al;simp only[cM,dW]at u;have HP:=Y hp;have bo:J (AQ x 0 (a:I))<=1048576:=oP (YO (a:I) x 0) M.o
  have aq:=Y u;have br:=d.4;have a6:Q (x[a].1.all (ZX t (J (AQ x 0 (a:I))))=So->∀j (h:j<J x),j<a+1->x[j].1.all (ZX t (J (AQ x 0 (j:I))))=So) :=
   λh j B bm=>if g:j=a then by subst g;exact h else Z_ j B O
  clear hp aj u a2 al R_ d1 d2 d3 d4 d5;generalize x[a]=F at*;generalize AQ x 0 (a:I)=e at*;go_wp2;generalize Y_:Z wr.1=bc at*;have HM:=Y Y_;clear Y_
  go_loopw [23] (λi wi=>∃j:N,j<=J F.1/\i=H j/\Sw (Z o.1) o wi/\Q ((F.1.take j).all (ZX t (J e))=So)) λi _=>J F.1-(intOf i).toNat
  case atStart=>exact⟨0,aN,R,Xb d _,R⟩
  obtain⟨j,B,rfl,b,ab⟩:=hrel;have u:=G (XU b O) aq;have ba:=G (XU b O) k0;by_cases C:j<J F.1
  .obtain⟨b',o',rfl,⟨_,bi⟩,O_,Q_,S_,T_,hi⟩:=HP j C;have e6:=G (XU b O) S_;have e7:=G (XU b O) T_;have be:=az _<|aH C;have T:=Y λh=>Xw a4<|JN (p:=ZX t (J e)) (xs:=F.1) (k:=j) C h;have a7:=Y λh=>XY (p:=ZX t (J e)) C ab h;have ar:=Y hi;clear S_ T_ hi;generalize F.1[j]=P at*;have bp:Z w.1<Z wr.1:=oN b.4;have bq:gb<Z wr.1:=oN b.4;have v:Q (ZX t (J e) P=(Tp So P.1 0 t&&(decide (1<=J P.2)&&decide (J P.2=J e)&&P.2.all (To 0 t)))):=R;cases hf:Tp So P.1 0 t
   .have s:=Y hf;go_wp2
    go_quiet ((go_at_call 141;exact Calls.quiet_of_same<|Yp))
    go_wp2;go_ret;exact⟨Xl (Xw T<|by rw[v.o,s.o];rfl).symm,Xg r<|iX (Xb b _) _⟩
   have s:=Y hf;by_cases l:J P.2=0
   .have U_:((J P.2:I)==0)=So:=by simp[l]
    have G_:=Y l;clear l;go_wp2
    go_quiet ((go_at_call 141;exact Calls.quiet_of_same<|Yp))
    go_wp2;go_ret;exact⟨Xl (Xw T<|by rw[v.o,s.o,G_.o];rfl).symm,Xg r<|iX (Xb b _) _⟩
   have U_:((J P.2:I)==0)=Sn:=by rw[iS];omega
   have G_:=Y l;clear l;by_cases f:J P.2=J e
   .have V_:((J P.2:I) != (J e:I))=Sn:=by simp[f]
    have H_:=Y f;clear f;go_wp2
    go_quiet ((go_at_call 141;exact Calls.quiet_of_same<|Yp))
    go_wp2;have V:=iX (Xb b<|.cells #[H P.1,X O_ (J P.2) Q_] 73) nq;generalize (D wr<|.cells #[H P.1,X O_ (J P.2) Q_] 73).drewN nq=w9 at*;have r0:=G (XU V O) k0;clear hf U_ V_ u ba e6 e7
    go_loop [53] (λi=>∃q:N,q<=J P.2/\i=H q/\Q ((P.2.take q).all (To 0 t)=So)) λi=>J P.2-(intOf i).toNat
    case atStart=>exact⟨0,aN,R,R⟩
    obtain⟨q,hq,rfl,ac⟩:=hrel;by_cases M_:q<J P.2
    .obtain⟨b2,o2,rfl,⟨_,bf⟩,ad⟩:=ar q M_;have r1:=G (XU V O) ad;have a5:=Y λh=>JN (p:=To 0 t) (xs:=P.2) (k:=q) M_ h;have a8:=Y λh=>XY (p:=To 0 t) M_ ac h;clear ad;generalize P.2[q]=F_ at*;have af:Q (Tp So F_ 0 t=To 0 t F_):=R;cases hr:Tp So F_ 0 t
     .have I_:=Y hr;go_wp2_with (go_at_call 141;refine(Yp).mono ?_;rintro g N_⟨rfl,y⟩;rw[y];clear y N_)
      go_ret;exact⟨Xl (Xw T<|by rw[v.o,Xw a5<|by rw[<-af.o];exact I_];simp).symm,Xg r V⟩
     have I_:=Y hr;go_wp2_with (go_at_call 141;refine(Yp).mono ?_;rintro g N_⟨rfl,y⟩;rw[y];clear y N_)
     go_round
     case rel=>exact⟨q+1,O,gM,Xw a8<|by rw[<-af.o];exact I_⟩
     simp[intOf];omega
    go_wp2
    exact⟨⟨j+1,O,gM,V,Xw a7 (by
     have f:=H_.o;have l:=G_.o;rw[v.o,s.o,eB f,eB (p:=1<=J P.2) O,YE (xs:=P.2) (k:=q) O ac.o];rfl)⟩,SA⟩
   have V_:((J P.2:I) != (J e:I))=So:=by rw[jJ];omega
   have H_:=Y f;clear f;go_wp2
   go_quiet ((go_at_call 141;exact Calls.quiet_of_same<|Yp))
   go_wp2;go_ret;exact⟨Xl (Xw T<|by rw[v.o,s.o,dJ H_.o];simp).symm,Xg r<|iX (Xb b _) _⟩
  go_wp2;exact⟨⟨a+1,O,gM,b,Xw a6<|YE (xs:=F.1) (k:=j) O ab⟩,SA⟩
 go_wp2;go_ret
 exact⟨Xl (by
  symm;exact(Zr ZX ⟨t,x⟩ x 0).2 λj B=>by rw[aV];exact Z_ j B<|oN M.o),Xg r d⟩
def T3(c:UInt8):Bool:=decide (48<=c.toNat)&&decide (c.toNat<=57)
def Ax(f:Wn)(a:N):Bool:=!(J f==0||decide (a<J f)||(f.head? == S 48&&decide (1<J f)))&&f.all T3
def Bo(f:Wn):N:=f.foldl (λa c=>a*10+(c.toNat-48)) 0
theorem yK{f}(c):Bo (f++[c])=Bo f*10+(c.toNat-48):=by simp[Bo]
theorem JS(f:Wn):∀a:N,f.all T3=So->f.foldl (λa c=>a*10+(c.toNat-48)) a<(a+1)*10^J f:=by
 induction f with
 |nil=>intro a _;simp
 |cons c r e=>
  intro a h;rw[List.all_cons,bY]at h;have d:=h.1;simp only[T3,bY,bD]at d;have b:=e (a*10+(c.toNat-48)) h.2;rw[iM,bA,Nat.pow_succ];refine aX b ?_
  calc (a*10+(c.toNat-48)+1)*10^J r<=((a+1)*10)*10^J r:=jI _ O
   _=(a+1)*(10^J r*10):=by rw[Nat.mul_assoc,Nat.mul_comm 10]
theorem zn{f}(h:f.all T3=So):Bo f<10^J f:=by
 have:=JS f 0 h;simpa [Bo]using this
def Gb(f:Wn):I:=if Ax f 4=So then (Bo f:I)else -1
def NM:List UInt8->Bool
 |45::c::r=>c != 48&&NM (c::r)&&c != 45
 |f=>Ax f 10&&decide (Bo f<=1000000000)
def i9(f:Wn):I:=if f.head?=S 45 then -(Bo f.tail:I)else Bo f
def am(sep:UInt8):List UInt8->List UInt8->List (List UInt8)
 |cur,[]=>[cur]
 |cur,c::r=>if c=sep then cur::am sep [] r else am sep (cur++[c]) r
def C3(a:Wn)(sep:UInt8):Vw:=am sep [] a
def Y3(f:Wn):Bool:=decide (0<J f)&&f.all λc=>decide (33<=c.toNat)&&decide (c.toNat<=126)
def Bf(a:Wn):Vw:=if (C3 a 32).all Y3=So then C3 a 32 else []
theorem zJ{f:Wn}(h:n<(K8 f).size):(K8 f)[n]=f[n]'(by rw[<-i7];exact h):=R
theorem yD(f:Wn)(a:N)(F:a<=100)(w:Ub):
 Sk prog 77 #[Sg (K8 f),H a] w λg B=>g=Rt (Sb (Ax f a))/\B=w:=by
 have L:=i7 f;by_cases j:J f=0
 .have d:Q (Ax f a=Sn):=Y<|by unfold Ax;simp[j]
  go_in
  go_wp2;go_ret;exact⟨Xl d.symm,R⟩
 by_cases s:a<J f
 .have d:Q (Ax f a=Sn):=Y<|by unfold Ax;simp[s]
  go_in
  go_wp2
  all_goals
   go_ret;exact⟨Xl d.symm,R⟩
 have M:0<(K8 f).size:=O;have p:Q ((f.head? == S 48)=decide ((((K8 f)[0]).toNat:I)=48)):=Y (by
  cases f with
  |nil=>simp at j
  |cons c K=>
   have g:(K8 (c::K))[0]=c:=R;rw[g];by_cases l:c=48;·subst l;rfl
   have:¬((c.toNat:I)=48):=λh=>l<|UInt8.toNat_inj.1 (by show c.toNat=48;omega)
   simp[l,this])
 by_cases b:((((K8 f)[0]).toNat:I)=48)/\1<J f
 .have d:Q (Ax f a=Sn):=Y (by unfold Ax;rw[p.o];simp[b.1,b.2]);let⟨u,v⟩:=b
  go_in
  go_wp2
  all_goals
   go_ret;exact⟨Xl d.symm,R⟩
 have r:Q (Ax f a=f.all T3):=Y (by
  unfold Ax;rw[p.o];have e1:(J f==0)=Sn:=by simpa using j
  have e2:decide (a<J f)=Sn:=by simpa using s
  have e3:(decide ((((K8 f)[0]).toNat:I)=48)&&decide (1<J f))=Sn:=by
   rw[jD];by_cases q:(((K8 f)[0]).toNat:I)=48;·exact aZ<|by simpa using λh=>b ⟨q,h⟩
   exact bC<|by simpa using q
  rw[e1,e2,e3];rfl)
 have z:(¬((((K8 f)[0]).toNat:I)=48))\/((((K8 f)[0]).toNat:I)=48/\J f<=1):=by
  by_cases q:(((K8 f)[0]).toNat:I)=48
  .exact aZ ⟨q,by
    obtain h|h:=mL 1 (J f);·exact Sz ⟨q,h⟩ b
    exact h⟩
  exact bC q
 clear b;obtain u|⟨u,v⟩:=z
 focus
  go_in
 rotate_left
 focus
  have P:J f=1:=O;have T:¬((1:I)<(J f:I)):=O;clear v
  go_in
 all_goals (
  go_wp2
  go_loop [5] (λm=>∃k:N,k<=J f/\m=H k/\Q ((f.take k).all T3=So)) λm=>J f-(intOf m).toNat
  case atStart=>exact⟨0,aN,R,R⟩
  case round=>
   obtain⟨k,C,rfl,n⟩:=hrel;by_cases t:k<J f
   .have V:k<(K8 f).size:=O
    have i:Q (T3 (K8 f)[k]=So↔¬(((K8 f)[k]).toNat:I)<48/\¬(57:I)<(((K8 f)[k]).toNat:I)):=Y (by simp only[T3,bY,bD];omega);have y:Q ((f.take<|k+1).all T3=((f.take k).all T3&&T3 (K8 f)[k])):=Y (by rw[bN t,List.all_append];simp[zJ]);have o:Q (T3 (K8 f)[k]=Sn->Ax f a=Sn):=Y (λh=>G r (by
     rw[lZ];exact⟨f[k],aH t,by have g:T3 f[k]=Sn:=h;rw[g];simp⟩))
    by_cases c1:(((K8 f)[k]).toNat:I)<48
    .have e:=Y (o.o (by cases h:T3 (K8 f)[k]with|false=>rfl|true=>exact Sz c1 (i.1 h).1));go_wp2;go_ret;exact⟨Xl e.symm,R⟩
    by_cases c2:(57:I)<(((K8 f)[k]).toNat:I)
    .have e:=Y (o.o (by cases h:T3 (K8 f)[k]with|false=>rfl|true=>exact Sz c2 (i.1 h).2));go_wp2;go_ret;exact⟨Xl e.symm,R⟩
    have x:Q ((f.take<|k+1).all T3=So):=Y (by rw[y.o,n.o,i.2 ⟨c1,c2⟩];rfl);go_wp2
    go_round
    case rel=>exact⟨k+1,O,gM,x⟩
    simp[intOf];omega
   have e:Q (Ax f a=So):=Y (by rw[r.o];have:=n.o;rwa[aW O]at this);go_wp2;go_ret
   exact⟨Xl e.symm,R⟩)
def NF(bs:Wn)(a:N):I:=if Ax bs a=So then (Bo bs:I)else 0
theorem zQA0{p: Prop}(h: p := by
  go_in
  go_wp2
  all_goals
   refine cC (v:=St #[H 0,Sb Sn]) (by simp[results,results187,go_sem]) R ⟨by rw[b.1,b.2],Below.refl _ _⟩): p := h
theorem zQA1{p: Prop}(h: p := by
  go_wp2;refine cC (v:=St #[H 0,Sb Sn]) (by simp[results,results187,go_sem]) R ⟨by rw[d.1,d.2],i⟩): p := h
theorem r6(c a:N){bs:Wn}(L B:N)(ha:Q (Yx w L B p bs))(g:Q (n=J bs))(hm:a<=10)(hn:n<=1000000)(W_:B<=Z w.1):
 Sk prog 187 #[X p n c,H a] w λj W=>j=Rt (St #[H<|NF bs a,Sb (Ax bs a)])/\Sw (Z w.1) w W:=by
 by_cases M:n=0
 .have b:Q (Ax bs a=Sn/\NF bs a=0):=Y (by
   have h:Ax bs a=Sn:=by unfold Ax;simp[<-g.o,M]
   exact⟨h,by unfold NF;rw[h];rfl⟩)
  subst M
  go_in
  go_wp2;refine cC (v:=St #[H 0,Sb Sn]) (by simp[results,results187,go_sem]) R ⟨by rw[b.1,b.2],Rf⟩
 by_cases C:a<n
 .have b:Q (Ax bs a=Sn/\NF bs a=0):=Y (by
   have h:Ax bs a=Sn:=by unfold Ax;rw[<-g.o];simp[C]
   exact⟨h,by unfold NF;rw[h];rfl⟩)
  exact zQA0
 have P:0<J bs:=oN g.o;obtain⟨z,P_,rfl,X_,F⟩:=ha 0 P;have N_:z<Z w.1:=O;have ab:((n:I)==0)=Sn:=by rw[iS];omega
 have ac:¬((a:I)<(n:I)):=O;have r:Q ((bs.head? == S 48)=decide ((bs[0].toNat:I)=48)):=Y (by
  cases bs with
  |nil=>simp at P
  |cons c af=>
   by_cases t:c=48;·subst t;rfl
   have:¬((c.toNat:I)=48):=λh=>t<|UInt8.toNat_inj.1 (by show c.toNat=48;omega)
   simp[t,this])
 have s:Q (((bs[0].toNat:I)=48/\1<n->Ax bs a=Sn)/\(¬((bs[0].toNat:I)=48/\1<n)->Ax bs a=bs.all T3)):=Y (by
  have ad:=g.o;constructor
  .rintro⟨q1,q2⟩;unfold Ax;rw[r.o];simp[q1,show 1<J bs by omega]
  intro e;unfold Ax;rw[r.o];have e1:(J bs==0)=Sn:=by rw[iS];omega
  have e2:decide (a<J bs)=Sn:=by rw[fC];omega
  have e3:(decide ((bs[0].toNat:I)=48)&&decide (1<J bs))=Sn:=by
   rw[jD];by_cases q:(bs[0].toNat:I)=48;·exact aZ<|by rw[fC];intro h;exact e ⟨q,O⟩
   exact bC<|by rw[fC];exact q
  rw[e1,e2,e3];rfl)
 have c0:Cl w z P_ (Si .u8 (bs[0].toNat:I)):=F;generalize (bs[0].toNat:I)=K at*;clear F r;by_cases e:K=48/\1<n
 .have b:Q (Ax bs a=Sn/\NF bs a=0):=Y (by
   have h:=s.1 e;exact⟨h,by unfold NF;rw[h];rfl⟩)
  let⟨T,S_⟩:=e;have z3:(1:I)<(n:I):=O;exact zQA0
 have x:=Y<|s.2 e;have O_:((K==48)=Sn)\/((K==48)=So/\¬((1:I)<(n:I))):=by
  by_cases q:K=48;·exact aZ ⟨by rw[iA];exact q,λh=>e ⟨q,O⟩⟩
  exact bC<|by rw[iS];exact q
 clear e s;obtain T|⟨T,S_⟩:=O_
 focus
  go_in
 rotate_left
 focus
  go_in
 all_goals (
  go_wp2
  go_loopw [6,31] (λR_ u wr=>∃k:N,k<=n/\u=H k/\R_=H (Bo (bs.take k):N)/\Q (Sw (Z w.1) w wr)/\Q ((bs.take k).all T3=So)) λ_ u _=>n-(intOf u).toNat
  case atStart=>exact⟨0,aN,R,R,Y<|Rf,Y R⟩
  case round=>
   obtain⟨k,Y_,rfl,rfl,i,m⟩:=hrel;by_cases aa:k<n
   .have l:k<J bs:=oN g.o
    let⟨T_,o',M_,_,V⟩:=ha k l;cases M_;have U_:=oB i V N_;have o:Q (T3 bs[k]=So↔¬(bs[k].toNat:I)<48/\¬(57:I)<(bs[k].toNat:I)):=Y (by simp only[T3,bY,bD];omega);have K_:Q ((bs.take<|k+1).all T3=((bs.take k).all T3&&T3 bs[k])):=Y (by rw[bN l,List.all_append];simp);have I_:Q ((Bo (bs.take<|k+1):I)=Bo (bs.take k)*10+((bs[k].toNat-48:N):I)):=Y (by rw[bN l,yK];omega);have y:Q (T3 bs[k]=Sn->Ax bs a=Sn/\NF bs a=0):=Y (λh=>by
     have f:Ax bs a=Sn:=G x (by
      rw[lZ];exact⟨bs[k],aH l,by rw[h];simp⟩)
     exact⟨f,by unfold NF;rw[f];rfl⟩)
    have v:Q ((Bo (bs.take k):I)<10000000000):=Y (by
     have C:=zn m;have f:10^J (bs.take k)<=10^10:=Nat.pow_le_pow_right vY (by simp only[dH];omega);have V_:(10:N)^10=10000000000:=vY;omega)
    clear V;by_cases c1:(bs[k].toNat:I)<48
    .have d:=Y (y.o (by cases h:T3 bs[k]with|false=>rfl|true=>exact Sz c1 (o.1 h).1));exact zQA1
    by_cases c2:(57:I)<(bs[k].toNat:I)
    .have d:=Y (y.o (by cases h:T3 bs[k]with|false=>rfl|true=>exact Sz c2 (o.1 h).2));exact zQA1
    have H_:Q ((bs.take<|k+1).all T3=So):=Y (by rw[K_.o,m.o,o.2 ⟨c1,c2⟩];rfl);have e1:IntKind.u8.wrap ((bs[k].toNat:I)-48)=(bs[k].toNat:I)-48:=by simp[IntKind.wrap,IntKind.signed,IntKind.bits];omega
    have e2:S6.wrap ((bs[k].toNat:I)-48)=(bs[k].toNat:I)-48:=by rw[dF];omega
    have e3:S6.wrap ((Bo (bs.take k):I)*10)=(Bo (bs.take k):I)*10:=by rw[dF];have:=v.o;omega
    have J_:Q (S6.wrap ((Bo (bs.take k):I)*10+((bs[k].toNat:I)-48))=(Bo (bs.take<|k+1):I)):=Y (by rw[I_.o,dF];have:=v.o;omega);have hs:=J_.o;go_wp2;exact⟨⟨k+1,O,gM,R,i,H_⟩,SA⟩
   have d:Q (Ax bs a=So/\NF bs a=Bo (bs.take k)):=Y (by
    have j:bs.take k=bs:=aW<|oN g.o;have f:Ax bs a=So:=by rw[x.o];have:=m.o;rwa[j]at this
    exact⟨f,by unfold NF;rw[f,j];rfl⟩)
   go_wp2;refine cC (v:=St #[H (Bo (bs.take k):N),Sb So]) (by simp[results,results187,go_sem]) R ⟨by rw[d.1,d.2],i⟩)
theorem pJ(a:Uy)(n c:N)(bs:Wn)(L B:N)(w:Ub)(ha:Q (Yx w L B a bs))(h:Q (n=J bs))(g:n<=1000000)(d:B<=Z w.1):
 Sk prog 153 #[X a n c] w λe i=>e=Rt (St #[H<|NF bs 4,Sb (Ax bs 4)])/\Sw (Z w.1) w i:=by
 have b:=Y<|r6 c 4 L B ha h vY g d;generalize NF bs 4=V at*;generalize Ax bs 4=k at*
 go_in
 go_wp2_with (go_at_call 187;refine b.mono ?_;rintro e j⟨rfl,f⟩)
 refine cC (v:=St #[H V,Sb k]) (by simp[results,results153,go_sem]) R ⟨R,f⟩
end Go.Proofs.YtnggdhnpjfigjaaGreatDoor
