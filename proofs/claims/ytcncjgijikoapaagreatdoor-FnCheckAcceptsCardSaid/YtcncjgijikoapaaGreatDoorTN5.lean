import Derived.Test.YtcncjgijikoapaaGreatDoorDT0
import Derived.Test.YtcncjgijikoapaaGreatDoorMT1
namespace Go.Proofs.YtcncjgijikoapaaGreatDoor
set_option maxHeartbeats 4000000
set_option maxRecDepth 100000
open _root_ renaming Array.size->Z,List.length->J,Nat->N,Int->I,rfl->R,Option.some->S,Option.none->U,Bool.true->So,Bool.false->Sn,trivial->JV,absurd->Sz,List.range->Rg
open Go renaming World.cell?->E,undef->Su,RowKit.Below->Sw,RowKit.intOf->JB,World.alloc->D,World.ownsRow->Sx,IntKind.i64->S6,Obj.cells->Sc,Ending.returned->Rt,Calls->Sk
open Value renaming slice->X,int->Si,agg->Sa,bool->Sb
open Go.RowKit Go.Proofs.Tryz
variable{t T:I}{n m k B g i j:N}{Z_:N->N×N×N}{w v u:Ub}{a A_:Uj}{p P:Uy}{l L:Wc}{x:Wi}{y:Wo}
structure Lt where
 m:N
 va:Uj
 tl:Wo
theorem Qn{T_:Yt}{o gc pc b t:N}{aa:Uy}{f ao V am M ac:N}{e:Wc}(W_:I){c0 c1 c2 c5:Uj}{d:N}(hQ:Q (∀c_ (U_:Act) t_ v_ w_,T_ (.panic c_) (U_.put (S t_) v_) w_->T_ (.panic c_) U_ w_))(hw:Q (Xf u n k p l))(bh:Q (f=J l))(cc:Q (Xf u n k P L))(cb:Q (V=J L))(hB:k<=Z u.1)(a4:E u (A g 1)=S (Hl o B gc))(a8:g<Z u.1)(a5:E u (A o (b*6))=S (Hl i j pc))(hG:o<Z u.1)(a6:E u (A i (t*2+1))=S (X aa M ac))(a9:i<Z u.1)(bx:Q (Xf u n k aa e))(bv:Q (M=J e))(cr:b<B)(hn:B<=11)(cu:t<j)(c6:f<=M)(c7:f<=1000)(hk:d<J L)(hz:Q (0<=L[d]/\L[d]<=1000)){r:Wc}(co:J r<=100000)(a2:∀(C bp:Uj)(y:Wo)(x:Ub),J y=134->nW u x W_ C (r++tF B l e L[d])->T_ (.exit 8) ⟨(c0::c1::c2::H ((B:N):I)::Hn g::c5::a::H ((b:N):I)::X p f ao::X P V am::A_::H ((t:N):I)::Hn (Z u.1)::H ((d:N):I)::bp::y).toArray,[]⟩ x)(C:Uj){wr:Ub}(v:J y=134)(w:Q (nW u wr W_ C r)):
 Code.wp prog (Code.loop SO) T_ ⟨(c0::c1::c2::H ((B:N):I)::Hn g::c5::a::H ((b:N):I)::X p f ao::X P V am::A_::H ((t:N):I)::Hn (Z u.1)::H ((d:N):I)::H ((0:N):I)::y).toArray,[]⟩ wr:=by
 have HX:=Y a2;clear a2;refine iY (λV_ wr=>∃T:Lt,V_=⟨(c0::c1::c2::H ((B:N):I)::Hn g::c5::a::H ((b:N):I)::X p f ao::X P V am::A_::H ((t:N):I)::Hn (Z u.1)::H ((d:N):I)::H ((T.m:N):I)::T.3).toArray,[]⟩/\J T.3=134/\T.m<=f/\Q (nW u wr W_ T.2<|r++nQ B l e L[d] T.m)) (λV_ _=>f-(JB<|V_.1.getD 14 Su).toNat) ⟨⟨0,C,y⟩,R,v,aN,Y<|by simpa [nQ]using w.o⟩ ?_;clear w v;rintro V_ wr⟨⟨m,C,y⟩,rfl,v,hm,F⟩;dsimp only at v hm F |-
 conv=>arg 2;whnf
 obtain⟨cn,rfl⟩:=pN v;simp only[wK,Nat.reduceAdd];clear v;by_cases b7:m<f
 .have b8:(m:I)<f:=O;have bd:m<J l:=by rw[<-bh.o];exact b7
  have bb:m<J e:=oN bv.o;obtain⟨bw,ow,bt,ct,a1⟩:=hw.o m bd;obtain⟨bn,bk,br,cs,b4⟩:=cc.o d hk;obtain⟨W,oa,bq,cq,a0⟩:=bx.o m bb;subst bt br bq;have kc:∀ad,Sw (Z u.1) u ad->∀Q_ o_,Q_<Z u.1->E ad (A Q_ o_)=E u (A Q_ o_):=λad hW Q_ o_ hq=>hW.cell (p:=A Q_ o_) hq;have h:=Y kc;clear kc;have x1:=G (h.o _ F.1 bw (ow+m) O) a1;have x2:=G (h.o _ F.1 bn (bk+d) O) b4;have ab:Q (l.getD m 0=l[m]/\e.getD m 0=e[m]):=Y ⟨by simp[bd],by simp[bb]⟩;have cv:d<V:=oN cb.o;have cw:m<M:=O;have az:=Y λ(w:l.getD m 0=Rs L[d] B)=>K1 (n:=B) (was:=l) (args:=e) (z:=L[d]) (m:=m) w;have au:=Y λ(w:¬l.getD m 0=Rs L[d] B)=>L3 (n:=B) (was:=l) (args:=e) (z:=L[d]) (m:=m) w;have bo:=Y<|UD B l e L[d] m;rw[ab.1,ab.2]at az;rw[ab.1]at au;have cj:=hz.1;have c8:=hz.2;generalize L[d]=c at*;generalize l[m]=R_ at*;generalize b1:e[m]=ax at*;clear b1;go_wp2_with fail
  refine Y7 (λx=>E x (A bw (ow+m))=S (H R_)/\E x (A bn (bk+d))=S (H c)) λs=>?_;refine X0 0 ?_;refine X0 1 ?_;refine X0 2 ?_;refine X0 3 ?_;refine X0 4 ?_;refine X0 5 ?_;refine X0 6 ?_;refine X0 7 ?_;refine X0 8 ?_;refine Xs 9 λK hK=>?_;go_simp
  go_at_call 123
  refine YU (uV cj O O) λw1 cf=>?_;subst cf;refine hK _ _ ⟨x1,x2⟩ λs=>?_;clear hK;refine X0 10 ?_;refine Yq ?_;clear s;have q:=Y F.drew;generalize bg:wr.drew=wd at*;have cl:=Y bg;clear F bg;have x1:=G (h.o _ q.low bw (ow+m) O) a1;by_cases z:R_=Rs c B
  .have cd:(R_==Rs c B)=So:=by simpa using z
   have Z_:=Y<|az.o z;clear z;have y1:=G (h.o _ q.1 g 1 a8) a4;have y2:=G (h.o _ q.1 o (b*6) hG) a5;have y3:=G (h.o _ q.1 i (t*2+1) a9) a6;have y4:=G (h.o _ q.1 W (oa+m) O) a0;obtain⟨ua,uc,ul,ce,bf⟩:∃U_ c_ bi,C=X U_ bi c_/\bi=J (r++nQ B l e c m):=by
    obtain⟨X_,h0⟩|⟨_,_,_,X_,_⟩:=q.3.2;·exact⟨U,0,0,X_,h0.symm⟩
    exact⟨_,_,_,X_,R⟩
   subst ce;have ck:=Y bf;clear bf;have cx:=Bx.c q.2 1;have cz:=q.2.lt;have S_:Q (g≠Z u.1/\o≠Z u.1/\i≠Z u.1/\W≠Z u.1):=Y O;have aq:Q (J (r++nQ B l e c m)<=200000):=Y (by rw[aQ];have:=bo.o;omega);have ar:=Y q.drew;have bm:Q ((r++nQ B l e c m)++[ax]=r++nQ B l e c (m+1)):=Y (by rw[Z_.o,cK]);generalize r++nQ B l e c m=ap at*;go_wp2_with fail
   refine Y7 (λx=>E x (A g 1)=S (Hl o B gc)/\E x (A o (b*6))=S (Hl i j pc)/\E x (A i (t*2+1))=S (Hm W oa M ac)/\E x (A W (oa+m))=S (H ax)) λs=>?_;refine X0 0 ?_;refine X0 2 ?_;refine X0 3 ?_;refine X0 4 ?_;refine X0 5 ?_;refine X0 6 ?_;refine X0 7 ?_;refine X0 8 ?_;refine X0 9 ?_;refine X0 10 ?_;refine X0 11 ?_;refine X0 12 ?_;refine X0 13 ?_;refine X0 14 ?_;refine eS (rs:=[1,15]) vZ sP ?_;refine(bQ R (λK hK=>?_) (bQ R (λK hK=>?_) dY))
   focus
    go_simp;refine hK _ _ kP λs=>?_;clear hK
    try simp only[xX]
    refine Xs 15 λK hK=>?_;go_simp;refine hK _ _ kP λs=>?_;clear hK
   rotate_left
   focus
    go_simp;refine hK _ _ kP λs=>?_;clear hK
    try simp only[xX]
    refine Xs 1 λK hK=>?_;go_simp;refine hK _ _ kP λs=>?_;clear hK
   all_goals (
    refine Xs 16 λK hK=>?_;refine YI RH ar.3 ?_ (oN aq.o)
    intro v8 w8 aj a7 ca b0;obtain⟨af,Y_,be⟩:=ar.push a7 aj R;have z1:=G (h.o _ Y_ g 1 a8) a4;have z2:=G (h.o _ Y_ o (b*6) hG) a5;have z3:=G (h.o _ Y_ i (t*2+1) a9) a6;have z4:=G (h.o _ Y_ W (oa+m) O) a0;obtain⟨g8,cm,rfl,b5,b3⟩:=Xm aj O;have k1:=Bx.c af 1;have kz:=Bx.thaw af;have bl:=Y be;clear b5 b3 ca b0 aj a7 be af;refine hK _ _ ⟨z1,z2,z3,z4⟩ λs=>?_;clear hK;refine X0 17 ?_;refine Xs 18 λK hK=>?_;go_simp;refine hK _ _ ⟨G (Xc<|cY S_.1) z1,G (Xc<|cY S_.2.1) z2,G (Xc<|cY S_.2.2.1) z3,G (Xc<|cY S_.2.2.2) z4⟩ λs=>?_;clear hK;refine Yq ?_;clear s z1 z2 z3 z4 k1 kz;go_wp2_with fail
    have a3:=bl.o;rw[bm.o]at a3;exact⟨⟨⟨m+1,_,_⟩,R,R,(by show m+1<=f;omega),Y a3⟩,SA⟩)
  have cd:(R_==Rs c B)=Sn:=by simpa using z
  have Z_:=Y<|au.o z;clear z;go_wp2_with fail
  refine⟨⟨⟨m+1,C,_⟩,R,R,(by show m+1<=f;omega),Y ?_⟩,SA⟩;rw[Z_.o];exact q.o
 have b8:¬(m:I)<f:=O;have bc:m=J l:=by rw[<-bh.o];omega
 have HF:Q (nW u wr W_ C<|r++tF B l e L[d]):=Y (by have:=F.o;rw[bc,Om]at this;exact this)
 clear bc;go_wp2_with fail
 exact HX.o C _ _ _ (by rfl) HF.o
structure QR where
 k:N
 va:Uj
 c14:Uj
 tl:Wo
theorem Pf{was args:Wc}(a:m<J l):oH n was (l.take<|m+1) args=oH n was (l.take m) args++tF n was args l[m]:=by unfold oH;rw[bN a,eZ];simp
theorem No{F:Yt}{V gc b s:N}{S_:Uy}{q W d K H_ ac:N}{h:Wc}{c0 c1 c2 c5:Uj}(hQ:Q (∀c (v:Act) M_ N_ M,F (.panic c) (v.put (S M_) N_) M->F (.panic c) v M))(hw:Q (Xf w n m p l))(U_:Q (q=J l))(a3:Q (Xf w n m P L))(T:Q (d=J L))(hB:m<=Z w.1)(ap:E w (A B 1)=S (Hl V k gc))(au:B<Z w.1)(aq:E w (A V (b*6))=S (Hl g i j))(hG:V<Z w.1)(ar:E w (A g (s*2+1))=S (X S_ H_ ac))(az:g<Z w.1)(am:Q (Xf w n m S_ h))(aj:Q (H_=J h))(ao:b<k)(hn:k<=11)(a0:s<i)(a4:q<=H_)(a5:q<=1000)(hz:Q (∀V_∈L,0<=V_/\V_<=1000))(a7:d<=11/\q<=11)(T_:∀(o ad r:Uj)(y:Wo)(O_:Ub),J y=134->nW w O_ t o (oH k l L h)->F (.exit 6) ⟨(c0::c1::c2::H ((k:N):I)::Hn B::c5::a::H ((b:N):I)::X p q W::X P d K::A_::H ((s:N):I)::Hn (Z w.1)::ad::r::y).toArray,[]⟩ O_){o r:Uj}{wr:Ub}(e:J y=134)(C:Q (nW w wr t o [])):
 Code.wp prog (Code.loop Ej) F ⟨(c0::c1::c2::H ((k:N):I)::Hn B::c5::a::H ((b:N):I)::X p q W::X P d K::A_::H ((s:N):I)::Hn (Z w.1)::H ((0:N):I)::r::y).toArray,[]⟩ wr:=by
 have Z_:=Y T_;clear T_;refine iY (λz wr=>∃x:QR,z=⟨(c0::c1::c2::H ((k:N):I)::Hn B::c5::a::H ((b:N):I)::X p q W::X P d K::A_::H ((s:N):I)::Hn (Z w.1)::H ((x.k:N):I)::x.3::x.4).toArray,[]⟩/\J x.4=134/\x.k<=d/\Q (nW w wr t x.2<|oH k l (L.take x.k) h)) (λz _=>d-(JB<|z.1.getD 13 Su).toNat) ⟨⟨0,o,r,y⟩,R,e,aN,C⟩ ?_;clear C e;rintro z wr⟨⟨f,o,r,y⟩,rfl,e,hk,u⟩;dsimp only at e hk u |-
 conv=>arg 2;whnf
 obtain⟨af,rfl⟩:=pN e;simp only[wK,Nat.reduceAdd];clear e;by_cases a1:f<d
 .have a2:(f:I)<d:=O;have J_:f<J L:=by rw[<-T.o];exact a1
  have X_:=Y<|FJ k l (L.take f) h;have Y_:=Y<|Pf (n:=k) (was:=l) (args:=h) J_;have ab:=Y<|hz.o _ (aH J_);have W_:Q (J (oH k l (L.take f) h)<=100000):=Y (by have h1:=X_.o;have h2:J (L.take f)*J l<=11*11:=lO (by rw[dH];have:=T.o;omega) (oN U_.o);omega)
  go_wp2_with fail
  refine Qn t (by exact Y λc v M_ N_ M C=>hQ.o c v M_ N_ M C) hw U_ a3 T hB ap au aq hG ar az am aj ao hn a0 a4 a5 J_ ab W_.o ?_ o (by rfl) u;intro a6 r y O_ e I_;obtain⟨af,rfl⟩:=pN e;simp only[wK,Nat.reduceAdd];clear e;rw[<-Y_.o]at I_;have F_:=Y I_;clear I_ u;go_wp2;exact⟨⟨⟨f+1,a6,_,_⟩,R,R,(by show f+1<=d;omega),F_⟩,SA⟩
 have a2:¬(f:I)<d:=O
 have F_:Q (nW w wr t o<|oH k l L h):=Y (by have:=u.o;rw[aW<|oN T.o]at this;exact this)
 go_wp2_with fail
 exact Z_.o o _ _ _ _ (by rfl) F_.o
structure nL(w1 wr:Ub)(lab:N->N×N×N)(b:N)(vp:Uj)(ps:Za)(av:Vu):Prop where
 low:Sw (Z w1.1) w1 wr
 row:Xv wr lab (2,b,0) (Z w1.1) 152 2 vp (J ps) (jw av ps)
 args:∀j (h:j<J ps),Xv wr lab (4,b,j) (Z w1.1) 2 1 (av j) (J ps[j].2) (hC ps[j].2)
 fr:∀q,Z wr.1<=q->lab q=(0,0,0)
theorem nL.push{wr:Ub}{b:N}{vp:Uj}{c:Za}{av:Vu}{o:Obj}(h:nL w wr Z_ b vp c av)(d:nW wr v t A_ l)(m:(D v o).grownBy u vp.ownBlock)(C:Sx u (Z w.1) 152 2 a n (jw av c++[Si S6 t,A_]))(B:n=J c+1)(s:a.ownBlock=vp.ownBlock\/a.ownBlock=S (Z (D v o).1)):
 ∃g,nL w u g b a (c++[⟨t,l⟩]) (λj=>if j=J c then A_ else av j):=by
 have r:=h.1.4;have f:XW wr (D v o) Z_ (λq=>if A_.ownBlock=S q then (4,b,J c)else Z_ q) (Z w.1) (λ_=>True):=by
  refine⟨aJ d.1.4 sP,λq _ i _=>⟨?_,aM λe=>?_⟩,λx q L=>?_⟩;·exact G (gF _ _ _<|aX i d.1.4) (d.1.5 q i)
  .have:=(d.3.lt q e).1;omega
  have V:=d.1.4;rw[aO]at L;exact G (aM λe=>by have:=(d.3.lt q e).2;omega) (x q O)
 have p:=h.2.sp f λ_ _=>JV;have F:Xv (D v o) (λq=>if A_.ownBlock=S q then (4,b,J c)else Z_ q) (4,b,J c) (Z w.1) 2 1 A_ (J l) (hC l):=⟨Zk (d.3.alloc o) O,λq e=>aU e⟩;obtain⟨g,M,k⟩:=p.grow m C s<|f.3 h.4;have P:=f.trans k;refine⟨g,?_,?_,λj y=>?_,P.3 h.4⟩;·refine(h.1.trans<|d.1.mono r).trans ((vT Rf (aJ r d.1.4) o).trans (p.below m aA (by simp;have:=d.1.4;omega)))
 .subst B
  have e:jw (λj=>if j=J c then A_ else av j) (c++[⟨t,l⟩])=jw av c++[H t,A_]:=by unfold jw;rw[Zo,aV];dsimp only;rw[aU R,x8 (f':=λj (T:Ph)=>[H T.1,av j]) 0 c λK W=>by rw[aV,aM O]]
  rw[e,aQ];exact M
 by_cases e:j<J c
 .rw[fA e,aM O];refine((h.3 j e).sp f λ_ _=>JV).sp k λq e2=>?_;rw[e2];simp
 have z:j=J c:=by simp at y;omega
 subst z;rw[fN aA,aU R];simp only[kL,eM];exact F.sp k λq e2=>by rw[e2];simp
theorem xU:∀y∈(ah l x n t m).2,J y.1<=4128:=by
 unfold ah;split;·simp
 intro y a;simp only[cS]at a;subst a;have:=m8<|NU l x n t;show J (NL l x n t)<=4128;unfold NL;omega
theorem Il(a c b x m)(e:J x.2<=4000):J (Nk a c b x m).1.1<=4128/\∀y∈(Nk a c b x m).2,J y.1<=4128:=by
 unfold Nk;split
 .refine⟨?_,sP⟩;have:=m8<|NU a c b x.3.3;show J (x.2.map (ZR a)++NL a c b x.3.3)<=4128;rw[aQ,bK];unfold NL;omega
 split
 .refine⟨by show J (x.2.map<|ZR a)<=4128;rw[bK];omega,λy d=>?_⟩;obtain h|h:=bU.1 d;·exact xU y h
  exact xU y h
 exact⟨by show J (x.2.map<|ZR a)<=4128;rw[bK];omega,sP⟩
theorem xP(c:Wc)(a:Wi)(e:∀x∈a,J x.2<=4000):∀b,b<=J a->(∀y∈(ae c a b).1,J y.1<=4128)/\∀y∈(ae c a b).2,J y.1<=4128
 |0,_=>by simp[ae]
 |b+1,h=>by
  obtain⟨f,g⟩:=xP c a e b O;let⟨i,j⟩:=Il c a b a[b] (J a+J (ae c a b).2) (e _<|aH _);rw[ou c a b O];refine⟨λy d=>?_,λy d=>?_⟩
  .rcases bU.1 d with h|h;·exact f y h
   rw[cS.1 h];exact i
  obtain h|h:=bU.1 d;·exact g y h
  exact j y h
theorem yo(b)(a:Wi)(j:J a<=1000)(e:∀x∈a,J x.2<=4000):J (NK b a)<=3000/\∀y∈NK b a,J y.1<=4128:=by
 unfold NK;have g:=ll b a (J a)<|aA;have i:=oz b a (J a)<|aA;let⟨c,d⟩:=xP b a e (J a)<|aA;refine⟨by rw[aQ];omega,λy f=>?_⟩;obtain h|h:=bU.1 f;·exact c y h
 exact d y h
structure TF(w:Ub)(L:N)(vals:Wo)(fl:Tm):Prop where
 len:J vals=J fl
 at_:∀(j:N)(h:j<J fl),∃a c,vals[j]?=S (X a (J fl[j]) c)/\Xf w L (Z w.1) a fl[j]
theorem TF.nil(w L):TF w L [] []:=⟨R,λj h=>Sz h sP⟩
theorem TF.app{v1 v2 f1 f2}(a:TF w n v1 f1)(d:TF w n v2 f2):TF w n (v1++v2) (f1++f2):=by
 refine⟨by rw[aQ,aQ,a.1,d.1],λj f=>?_⟩;rw[aQ]at f;by_cases e:j<J f1
 .let⟨b,c,e1,e2⟩:=a.2 j e;refine⟨b,c,?_,?_⟩
  .rw[dL (by rw[a.1];exact e),fA e];exact e1
  rw[fA e];exact e2
 let⟨b,c,e1,e2⟩:=d.2 (j-J f1) O;refine⟨b,c,?_,?_⟩
 .rw[eV (by rw[a.1];omega),a.1,fN O];exact e1
 rw[fN O];exact e2
theorem Cc{f:Tj}(q:XR w n m (S ⟨k,0,U⟩) ((Rg B).map f))(s:m<=Z w.1):∃o:Wo,TF w n o ((Rg B).map f)/\(∀j u,o[j]?=S u->E w (A k j)=S u)/\∀u∈o,∃b t c,u=X b t c:=by
 have e:∀j,j<B->∃v:Uj,E w (A k j)=S v/\∃b c,v=X b (J (f j)) c/\Xf w n (Z w.1) b (f j):=λj a=>by let⟨x,C,g,z,b,c,i,p⟩:=q j (by simpa using a);simp only[cM,dW]at i p;injection g with g;injection g with e1 e2;subst e1 e2;rw[aV]at i;exact⟨_,i,b,c,R,p.mono aA s⟩
 refine⟨(Rg B).map λj=>if a:j<B then (e j a).choose else Hq,⟨sP,λj a=>?_⟩,λj u d=>?_,λu d=>?_⟩
 .have l:j<B:=by simpa using a
  let⟨y,b,c,h,r⟩:=(e j l).choose_spec;refine⟨b,c,?_,?_⟩
  .rw[dX,iQ l];simp only[jY,l,dif_pos,cM,dW];rw[h]
  simp only[cM,dW];exact r
 .by_cases a:j<B
  .rw[dX,iQ a]at d;simp only[jY,a,dif_pos]at d;injection d with d;rw[<-d];exact(e j a).choose_spec.1
  rw[dK<|by simp;omega]at d;cases d
 obtain⟨j,a,rfl⟩:=aY.1 d;have a:=bE.1 a;simp only[a,dif_pos];let⟨_,b,c,h,_⟩:=(e j a).choose_spec;exact⟨b,_,c,h⟩
structure PS(w2 wr:Ub)(b0 L:N)(u:Uj)(fl:Tm):Prop where
 os:wr.4=w2.4
 tape:wr.2=w2.2
 output:wr.5=w2.5
 size:Z w2.1<=Z wr.1
 fr:∀q,q<Z w2.1->q≠b0->wr.1[q]?=w2.1[q]?
 ob:∀q,u.ownBlock=S q->q=b0\/Z w2.1<=q
 own:∃vals:Wo,TF w2 L vals fl/\Sx wr b0 61 1 u (J fl) vals
theorem PS.push{wr}{u':Uj}{c f2 v2}(h:PS w wr n m a c)(k:TF w m y c)(f:TF w m v2 f2)(b:wr.grownBy v a.ownBlock)(j:Sx v n 61 1 u' (J c+J f2) (y++v2))(i:u'.ownBlock=a.ownBlock\/u'.ownBlock=S (Z wr.1)):PS w v n m u' (c++f2):=by
 have l:=h.4;refine⟨G b.1 h.1,G b.2 h.2,G b.3 h.3,aJ h.4 b.4,λq d g=>G (b.5 q O λe=>by obtain e|e:=h.6 q e.symm<;>omega) (h.5 q d g),λq e=>?_,_,k.app f,by rw[aQ];exact j⟩;obtain e1|e1:=i;·exact h.6 q<|G e1.symm e
 rw[e1]at e;injection e with e;exact aZ O
theorem vg(a:Jy n x)(b):J (Ns x n b)<=b*4001:=by
 induction b with
 |zero=>simp[Ns]
 |succ b c=>
  rw[Ve,aQ];have:=oX a b;simp;omega
theorem A9(c)(ha:Q (Xp w k B p x))(K:Q (m=J x))(hB:B<=Z w.1)(o:Q (Jy n x)):
 Sk prog 18 #[Sa #[H n,X p m c]] w λf F=>∃V cc,f=Rt (Hl V (J (Ns x n m)) cc)/\Sw (Z w.1) w F/\XR F (Z w.1) (Z F.1) (S ⟨V,0,U⟩) (Ns x n m):=by
 have hn:m<=1000:=oP K.o o.1.2;have a9:0<m:=oP K.o o.1.1;have t:Sw (Z w.1) w (D (D w<|Sc #[H n,X p m c] 25) (Sc #[] 61)):=Xb (Xb Rf _) _;have ap:E (D (D w<|Sc #[H n,X p m c] 25) (Sc #[] 61)) (A (Z w.1) 0)=S (H n):=SC
 have aq:E (D (D w<|Sc #[H n,X p m c] 25) (Sc #[] 61)) (A (Z w.1) 1)=S (X p m c):=SC
 have C:Sx (D (D w<|Sc #[H n,X p m c] 25) (Sc #[] 61)) (Z w.1+1) 61 1 (Hl (Z w.1+1) 0 0) 0 []:=by have h:=eI (base:=Z w.1+1) (e:=61) (size:=1) (D w<|Sc #[H n,X p m c] 25) #[] 0 sP sP R;rw[aO]at h;exact h
 go_in
 go_wp2_with fail
 generalize D (D w _) _=y at*;have bb:Z w.1+1<Z y.1:=(C.lt _ R).2;have J_:=Y<|qm c (Y<|ha.keep (t.mono hB)) K (oN t.4) o;refine J_.mono ?_;rintro f i⟨gO,cO,L,rfl,v,a7,P⟩;have Y_:=Y P;have bc:=v.4;have l:=Y<|Xg t v;have H_:Q (PS i i (Z w.1+1) (Z y.1) (Hl (Z w.1+1) 0 0) (Ns x n 0)):=Y ⟨R,R,R,aA,λ_ _ _=>R,λq f=>bC (by injection f with f;exact f.symm),[],by
  have h:=TF.nil i (Z y.1);exact h,by
  have h:=rk C v;exact h⟩
 have X_:Q (∀b,b<=m->J (Ns x n b)<=4001000):=Y (λb W=>by have:=vg o b;have:b*4001<=1000*4001:=jI _ O;omega);clear v P C t ap aq;go_wp2
 go_loopw [3,5] (λu s wr=>∃b:N,b<=m/\s=H b/\Q (PS i wr (Z w.1+1) (Z y.1) u (Ns x n b))) λ_ s _=>m-(JB s).toNat
 .exact⟨0,aN,R,H_⟩
 obtain⟨b,W,rfl,a⟩:=hrel;by_cases az:b<m
 .let⟨M,h2,O_⟩:=Y_ b az;let⟨V_,v1,v2,v3⟩:=Cc O_<|aA;have L_:=Y v1;let⟨a4,r,d⟩:=a.7;have HV:=Y r;have ac:=Y d;have K_:=Y<|Ve x n b;have a5:=X_ b W;have a6:=oX o b;have T_:J V_=J (Tu x b)+1:=by rw[v1.1];simp
  have eO:=G (Xc<|a.5 gO (aI i _ M) O) M;have W_:=Y λj u g=>G (Xc<|a.5 (L b) (aI i _<|v2 j u g) O) (v2 j u g);have ad:=Y v3;have ba:=a.4;let⟨e,T⟩:∃e,e=J (Tu x b)+1:=⟨_,R⟩;rw[<-T]at eO T_ K_;have a8:e<=4001:=O;have aa:Q (J ((Rg e).map (UU x n b))=e):=Y sP;rw[<-T]at L_;clear r d v1 v2 v3 M h2 O_ T;go_wp2_with (at_builtin;refine YB (news:=V_) Qd ac ?c1 (by intro u hu;obtain⟨_,_,_,rfl⟩:=ad u hu;rfl) ?_ (hl:=by rw[T_,iN]))
  case c1=>
   intro j u g;have e2:((A (L b) 0):Addr).add j=(A (L b) j):=by rw[mK];simp
   rw[e2];exact W_ j u g
  intro v8 w8 U_ S_ _ Q_;have I_:=Y (a.push HV L_ S_ (by rw[aa.o];exact U_) Q_);rw[<-K_.o]at I_;clear U_ S_ Q_;go_wp2;exact⟨⟨b+1,O,gM,I_⟩,SA⟩
 have al:m=b:=O
 subst al;let⟨a4,r,d⟩:=a.7;have a0:0<J (Ns x n m):=by obtain⟨q,rfl⟩:∃q,m=q+1:=⟨m-1,O⟩;rw[Ve];simp;omega
 obtain⟨z,c8,rfl,_,_⟩:=Xm d a0;have Z_:Q (XR wr (Z w.1) (Z wr.1) (S ⟨z,0,U⟩) (Ns x n m)):=Y (λj g=>by let⟨aj,cj,e1,e2⟩:=r.2 j g;refine⟨z,0,R,⟨oN<|(d.lt _ R).1,(d.lt _ R).2⟩,aj,cj,by rw[aV];exact Jj d e1,λs hi=>?_⟩;let⟨M_,o',e3,af,ao⟩:=e2 s hi;exact⟨M_,o',e3,⟨O,oN a.4⟩,G (Xc<|a.5 M_ af.2 O) ao⟩)
 have ab:=Y (show Sw (Z w.1) w wr from⟨G a.1 l.1,G a.2 l.2,G a.3 l.3,oP l.4 a.4,λq hq=>G (a.5 q O O) (l.5 q hq)⟩);clear r d;go_wp2;go_ret;exact⟨z,c8,R,ab,Z_⟩
theorem ut(h:n<J l):NG l n=l[n]:=by unfold NG;rw[bF,aC h];rfl
theorem DE(ha:n<J L)(e:L[n]=(m:I)):UM l L n=NG l m:=by unfold UM;rw[bF,aC ha,gR,e];rfl
theorem DQ(h:Ft t x=0):XJ ⟨t,x⟩=So:=by
 cases hv:XJ ⟨t,x⟩with
 |true=>rfl
 |false=>rw[Uh hv]at h;exact Sz h vY
def x7(a:Wc)(k:I)(q:N):Prop:=∀i (h:i<J a),i<q->0<=a[i]/\a[i]<k
theorem JP:x7 l t 0:=λi _ h=>Sz h O
theorem KI(h:x7 l t n)(c:n<J l)(a:0<=l[n]/\l[n]<t):x7 l t (n+1):=λi b d=>by
 by_cases e:i=n;·subst e;exact a
 exact h i b O
theorem KX(h:x7 l t (J l)):∀c∈l,0<=c/\c<t:=λc b=>by obtain⟨i,a,rfl⟩:=bR b;exact h i a a
theorem EN{v:I}{xs:Wi}{k:I}(b:n<J l)(h:¬(0<=l[n]/\l[n]<k)):¬Pm v xs l k:=λa=>h<|a.2.2.2.2.1 _ (aH b)
theorem BC(v:I)(af:Uy)(L c:N)(e:Wi)(bq a1:N)(M_:Uy)(f cc:N)(a:Wc)(Lc Bc:N)(k:I)(w:Ub)(ha:Q (Xp w bq a1 af e))(n:Q (L=J e))(hs:Q (J e+Xx e<=1048576))(hB:a1<=Z w.1)(hc:Q (Xf w Lc Bc M_ a))(P:Q (f=J a))(cf:Bc<=Z w.1)(cq:f<=1048576):
 Sk prog 6 #[Sa #[H v,X af L c],X M_ f cc,H k] w λG_ w'=>G_=Rt (Sb (MD v e a k))/\Sw (Z w.1) w w':=by
 have ab:=Y λW (P_:Sw (Z w.1) w W)=>KT v c (Y<|ha.keep (P_.mono hB)) n hs (oN P_.4);obtain⟨vd,au⟩:∃vd,vd=Ft v e:=⟨_,R⟩;rw[<-au]at ab;have ad:=Y au;clear au
 go_in
 go_wp2_with fail
 refine YU (ab.o _<|Xb Rf _) λB Q_=>?_;obtain⟨al,bx⟩:=NC Q_;have k0:E B (A (Z w.1) 0)=S (H v):=by rw[al _ _ sP];simp
 have k1:E B (A (Z w.1) 1)=S (X af L c):=by rw[al _ _ sP];simp
 have g:=Y<|Xg (Xb (dC (Z w.1) w) _) Q_;have ct:Z w.1+1<=Z B.1:=by have:=Q_.4;simp at this;omega
 clear al bx Q_ ab;by_cases hv:vd=0
 case neg=>
  have p:=Y (pL (v:=v) (xs:=e) (cs:=a) (k:=k) λh=>hv<|G ad h.1);have bk:(vd != 0)=So:=by rw[jJ];exact hv
  go_wp2;go_ret;exact⟨Xl p.symm,g.o⟩
 subst hv;by_cases cn:k<0
 .have p:=Y (pL (v:=v) (xs:=e) (cs:=a) (k:=k) λh=>by have:=h.2.1;omega);go_wp2;go_ret;exact⟨Xl p.symm,g.o⟩
 by_cases co:2000<k
 .have p:=Y (pL (v:=v) (xs:=e) (cs:=a) (k:=k) λh=>by have:=h.2.2.1;omega);go_wp2;go_ret;exact⟨Xl p.symm,g.o⟩
 by_cases ar:(f:I)=v
 case neg=>
  have p:=Y (pL (v:=v) (xs:=e) (cs:=a) (k:=k) λh=>ar<|by rw[P.o];exact h.2.2.2.1);have bk:((f:I) != v)=So:=by rw[jJ];exact ar
  go_wp2;go_ret;exact⟨Xl p.symm,g.o⟩
 subst ar;have bk:((f:I) != (f:I))=Sn:=sP;have K_:Q (Jy f e):=Y<|XH (DQ ad.symm);have cj:=K_.2;have a6:Q (∀W,Sw (Z B.1) B W->∀(q:N)(h:q<f),∃b o,M_=S (A b o)/\E W (A b (o+q))=S (H (NG a q))):=Y (λW hW q hq=>by
  have y:q<J a:=by rw[<-P.o];exact hq
  obtain⟨b,o,G_,P_,h⟩:=hc.o q y;refine⟨b,o,G_,?_⟩;rw[ut y];exact oB hW (G (XU g.o O) h) O)
 have a3:=Y<|A9 c (Y<|ha.keep (g.mono hB)) n (oN g.4) K_;go_wp2
 go_loop [7] (λi=>∃q:N,q<=f/\i=H q/\Q (x7 a k q)) λi=>f-(JB i).toNat
 .exact⟨0,aN,R,Y<|JP⟩
 obtain⟨q,hq,rfl,Z_⟩:=hrel;by_cases bg:q<f
 .obtain⟨b,o,rfl,e0⟩:=a6.o B Rf q bg;have y:q<J a:=by rw[<-P.o];exact bg
  have Y_:=Y λh=>pL<|EN (v:=(f:I)) (xs:=e) (k:=k) y h;have bd:=Y λh=>KI Z_.o y h;have a9:=Y<|ut y;rw[<-a9.o]at Y_ bd;clear a9;generalize NG a q=a2 at*;have cr:(q:I)<(f:I):=O;by_cases cg:a2<0
  .go_wp2;go_ret;exact⟨Xl (Y_.o O).symm,g.o⟩
  by_cases ch:k<=a2
  .go_wp2;go_ret;exact⟨Xl (Y_.o O).symm,g.o⟩
  go_wp2;exact⟨⟨q+1,O,gM,Y<|bd.o O⟩,SA⟩
 have b7:q=f:=O;subst b7;have a8:Q (∀c∈a,0<=c/\c<k):=Y (KX<|by rw[<-P.o];exact Z_.o);go_wp2_with fail
 refine a3.mono ?_;rintro G_ m⟨gA,cA,rfl,R_,aj⟩;have a4:=Y<|Xg g.o R_;have a7:Q (∀W,Sw (Z m.1) m W->∀(u:N)(h:u<q),∃b o,M_=S (A b o)/\E W (A b (o+u))=S (H (NG a u))):=Y λW hW=>a6.o W<|R_.trans (hW.mono R_.4);obtain⟨d,l⟩:∃d,d=Ns e q L:=⟨_,R⟩;have bn:=Y l;rw[<-l]at aj;rw[<-l];obtain⟨K,r⟩:∃K,K=J d:=⟨_,R⟩;have cd:=Y r;rw[<-r];have ci:K<=4001000:=by have h1:=vg K_.o L;have h2:=K_.1.2;have h3:=n.o;have h4:L*4001<=1000*4001:=jI _ O;rw[<-l]at h1;omega
 have bo:Q (∀C,Sw (Z m.1) m C->∀i,i<K->∃t F,E C (A gA i)=S (X t (J (d.getD i [])) F)/\∀j,j<J (d.getD i [])->∃T V u,t=S (A T V)/\u<q/\E C (A T (V+j))=S (H ((u:N):I))/\UM a (d.getD i []) j=NG a u):=Y (λC U_ i S_=>by
  have x:i<J d:=by rw[<-r];exact S_
  obtain⟨O_,o',e',br,t,F,be,b0⟩:=aj i x;injection e' with e';injection e' with e1 e2;subst e1 e2;rw[aV]at be;have am:d.getD i []=d[i]:=by rw[bF,aC x];rfl
  rw[am];have b8:=tD (xs:=e) (V:=q) (l:=d[i]) (by rw[<-n.o,<-l];exact aH x);refine⟨t,F,oB U_ be br.2,λj T_=>?_⟩;obtain⟨T,V,e3,bt,bf⟩:=b0 j T_;obtain⟨u,hu,eu⟩:=b8.2 _<|aH T_;rw[eu]at bf;exact⟨T,V,u,e3,hu,oB U_ bf bt.2,DE T_ eu⟩)
 have bp:Q (∀i,i<K->J (d.getD i [])<=q):=Y (λi S_=>by
  have x:i<J d:=by rw[<-r];exact S_
  have am:d.getD i []=d[i]:=by rw[bF,aC x];rfl
  rw[am];exact(tD (xs:=e) (V:=q) (l:=d[i]) (by rw[<-n.o,<-l];exact aH x)).1)
 have bl:Q (∀i j b,i<K->j<J (d.getD i [])->b<j->UM a (d.getD i []) j=UM a (d.getD i []) b->MD (q:I) e a k=Sn):=Y (λi j b h1 h2 h3 h4=>pL<|Dm (i:=i) (a:=j) (b:=b) (l:=d.getD i []) (by rw[l,n.o];rfl) (by rw[show((q:I)).toNat=q from R,<-n.o,<-l,<-r];exact h1) h2 h3 h4);have bm:Q (QD a d K->MD (q:I) e a k=So):=Y (λh=>CG ⟨ad.symm,O,O,by rw[P.o],a8.o,(BZ a8.o).1 (by rw[show((q:I)).toNat=q from R,<-n.o,<-l,<-r];exact h)⟩);clear R_ aj a3 l r Z_ bn;go_wp2
 go_loopw [9] (λi wr=>∃i':N,i'<=K/\i=H i'/\Q (Sw (Z m.1) m wr)/\Q (QD a d i')) λi _=>K-(JB i).toNat
 .exact⟨0,aN,R,Y<|Rf,Y<|K7⟩
 obtain⟨i,S_,rfl,V_,HU⟩:=hrel;by_cases aq:i<K
 .have L_:=Y λC U_=>bo.o C U_ i aq;have X_:=Y λj b=>bl.o i j b aq;have bi:=bp.o i aq;have aa:=Y λh=>OK (i:=i) HU.o h;obtain⟨a0,ap⟩:∃az,az=d.getD i []:=⟨_,R⟩;rw[<-ap]at X_ aa bi;simp only[<-ap]at L_;obtain⟨z,ao⟩:∃az,az=J a0:=⟨_,R⟩;rw[<-ao]at X_ aa bi;simp only[<-ao]at L_;clear ap ao;have cl:(i:I)<(K:I):=O;go_wp2
  go_loopw [10] (λj wr=>∃j':N,j'<=z/\j=H j'/\Q (Sw (Z m.1) m wr)/\Q (P6 a a0 j')) λj _=>z-(JB j).toNat
  .exact⟨0,aN,R,V_,Y<|Xj⟩
  clear V_;obtain⟨j,T_,rfl,J_,HA⟩:=hrel;obtain⟨t,F,x1,M⟩:=L_.o wr J_.o;by_cases bh:j<z
  .have cm:(j:I)<(z:I):=O;clear M;go_wp2_with fail
   clear x1
   go_loopw [11] (λb wr=>∃O_:N,O_<=j/\b=H O_/\Q (Sw (Z m.1) m wr)/\Q (yF a a0 j O_)) λb _=>j-(JB b).toNat
   .exact⟨0,aN,R,J_,Y<|Ly⟩
   clear J_;obtain⟨b,P_,rfl,s,a5⟩:=hrel;by_cases b6:b<j
   .obtain⟨t,F,x1,M⟩:=L_.o wr s.o;obtain⟨T,V,u1,rfl,ca,y1,q1⟩:=M j bh;obtain⟨b4,o4,u2,e4,cb,y2,q2⟩:=M b O;injection e4 with e4;injection e4 with e5 e6;subst e5 e6;obtain⟨bc,oc,rfl,z1⟩:=a7.o wr s.o u1 ca;obtain⟨ce,cu,e7,z2⟩:=a7.o wr s.o u2 cb;injection e7 with e7;injection e7 with e8 e9;subst e8 e9;have ba:=Y<|X_.o j b bh b6;have bb:=Y λh=>Mm (b:=b) a5.o h;rw[q1,q2]at ba bb;clear q1 q2 M;generalize NG a u1=c1 at*;generalize NG a u2=c2 at*;have i1:(b:I)<(z:I):=O;have i2:(u1:I)<(q:I):=O;have i3:(u2:I)<(q:I):=O;have i4:(b:I)<(j:I):=O;by_cases he:c1=c2
    .subst he;go_wp2_with fail
     go_quiet (fail)
     go_wp2;go_ret;exact⟨Xl (ba.o<|by trivial).symm,Xg a4.o<|iX s.o _⟩
    have ck:(c1==c2)=Sn:=by rw[iS];exact he
    go_wp2_with fail
    go_quiet (fail)
    go_wp2;exact⟨⟨b+1,O,gM,Y<|iX s.o _,Y<|bb.o he⟩,SA⟩
   have bv:b=j:=O;subst bv;go_wp2;exact⟨⟨b+1,O,gM,s,Y<|QE HA.o a5.o⟩,SA⟩
  have b5:j=z:=O;subst b5;clear M;go_wp2;exact⟨⟨i+1,O,gM,J_,Y<|aa.o HA.o⟩,SA⟩
 have b1:i=K:=O;subst b1;go_wp2;go_ret;exact⟨Xl (bm.o HU.o).symm,Xg a4.o V_.o⟩
end Go.Proofs.YtcncjgijikoapaaGreatDoor
