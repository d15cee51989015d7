import Derived.Test.YtcncjgijikoapaaGreatDoorDW1
import Derived.Test.YtcncjgijikoapaaGreatDoorCE2c
import Derived.Test.YtcncjgijikoapaaGreatDoorSQ11
namespace Go.Proofs.YtcncjgijikoapaaGreatDoor
set_option maxHeartbeats 8000000
set_option maxRecDepth 100000
open _root_ renaming Array.size->Z,List.length->J,Nat->N,Int->I,rfl->R,Bool.true->So,Bool.false->Sn,absurd->Sz,Decidable.decide->Jd
open Go renaming World.alloc->D,Obj.cells->Sc,Ending.returned->Rt,RowKit.Below->Sw,Calls->Sk
open Value renaming slice->X,bool->Sb,agg->Sa
open Go.RowKit Go.Proofs.Tryz
variable{t T:I}{n m k B c:N}{w v:Ub}{p P:Uy}{l:Wc}{x:Wi}
theorem UT(s:cB):J (vQ s)<=2000:=by
 have h:=FZ (jt s) (Rj s);unfold vQ;split;·rw[bL];exact h
 exact h
theorem pG.at_{a:List ag}(h:pG w n p m c a):d7 w n (Z w.1) p a:=by obtain⟨e,d,b⟩:=h;exact Nh.at_ b
theorem pG.cap{b:List ag}(h:pG w n p m c b):m<=c:=by
 obtain⟨e,d,a⟩:=h;obtain⟨e1,_,_⟩|⟨g',c',e1,_,h3⟩:=Vc a.1.1
 .cases e1;exact aA
 cases e1;exact h3
theorem Np(h:MD t x l T=So):∃V:N,t=(V:I)/\l8 V x l T/\Ft (V:I) x=0/\J l=V:=by
 obtain⟨a,_,_,j,e,c⟩:=CR h;obtain⟨b,d⟩:=TX a;obtain⟨V,rfl⟩:=A4 b;have g:¬∃i,N4 x i:=λf=>by rw[qg b d f]at a;omega
 exact⟨V,R,⟨b,d,g,O,e,by rw[dM]at c;exact c⟩,a,O⟩
theorem R3(C:1<=t/\t<=64)(r:MD (n:I) x l t=So)(d:Jy n x)(K:J x+Xx x<=1048576)(g:Yy w)(i:Yb w)(j:Jn w)(a:Sw (Z w.1) w v)(e:m=J x)(ha:Xp v 0 (Z v.1) p x)(o:Xf v 0 (Z v.1) P l)(q:k=J l):
 Sk prog 5 #[Sa #[H n,X p m c],X P k B,H t] v λz y=>∃s u,z=Rt (Sa #[H t,X s (J (NK l x)) u])/\Sw (Z v.1) v y/\pG y (Z v.1) s (J (NK l x)) u (NK l x):=by
 obtain⟨_,_,_,V,L,_⟩:=CR r;have W:=d.2;have KO:=λb (h:Sw (Z v.1) v b)=>g.keep (a.trans<|h.mono a.4) g.1;have KT:=λb (h:Sw (Z v.1) v b)=>i.keep (a.trans<|h.mono a.4) i.1;refine Hi (Y ha) (Y e) aA (Y d) (Y o) (Y q) (Y O) aA C (Y<|KO _ Rf) (Y<|KT _ Rf) (Y λF M=>by have:=L F M;omega) (Y<|by rw[e];exact d.1.4) (Y λb h=>?_);have f:=F0 (n:I) c B t (Y<|ha.keep h) (Y e) (Y K) h.4 (Y<|KO _ h) (Y<|KT _ h) (Y<|j.of_block ((a.trans<|h.mono a.4).5 _ (aI w _<|j 0 vY))) (Y<|o.keep h) (Y q) h.4 O;rw[r]at f;exact f
theorem Qp(q:1<=T->T<=64->MD t x l T=Sn)(r:J x+Xx x<=1048576)(d:Yy w)(e:Yb w)(f:Jn w)(a:Sw (Z w.1) w v)(s:m=J x)(ha:Xp v 0 (Z v.1) p x)(i:Xf v 0 (Z v.1) P l)(j:n=J l)(o:n<=1048576):
 Sk prog 5 #[Sa #[H t,X p m c],X P n k,H T] v λg u=>g=Rt (Sa #[H 0,Hq])/\Sw (Z v.1) v u:=by
 have KO:=λb (h:Sw (Z v.1) v b)=>d.keep (a.trans<|h.mono a.4) d.1;have KT:=λb (h:Sw (Z v.1) v b)=>e.keep (a.trans<|h.mono a.4) e.1;exact LK (Y q) (Y λb h=>F0 t c k T (Y<|ha.keep h) (Y s) (Y r) h.4 (Y<|KO _ h) (Y<|KT _ h) (Y<|f.of_block ((a.trans<|h.mono a.4).5 _ (aI w _<|f 0 vY))) (Y<|i.keep h) (Y j) h.4 o)
theorem PJ{bs:Wn}(ha:Q (Yx w 0 (Z w.1) p bs))(hx:Q (n=J bs))(F:Q (Yy w))(K:Q (Yb w))(hZ:Q (Jn w)):
 Sk prog 3 #[X p n c] w λh w'=>h=Rt (Sb So)/\Sw (Z w.1) w w':=by
 by_cases b5:(1048576:I)<(n:I)
 .go_in
  go_wp2;go_ret;exact⟨R,Rf⟩
 have hn:n<=1048576:=O
 go_in
 go_wp2_with fail
 refine(Dp ha hx hn aA).mono ?_;rintro h z⟨O_,L,P,cg,rfl,y⟩;have g:=Y y;have b0:=y.2.4;clear y;have aj:Sw (Z z.1) z (D z (Sc #[H (jt<|im bs).1,X O_ L P] 25)):=Xb Rf _;have a4:=Y (Bx.new z #[H (jt<|im bs).1,X O_ L P] 25);go_wp2_with fail
 refine(Dp (Y<|ha.keep (g.2.trans<|aj.mono b0)) hx hn SB).mono ?_;rintro h q⟨ga,gm,gc,v2,rfl,y⟩;have s:=Y y;have cf:=y.2.4;clear y;have x:Sw (Z q.1) q (D q (Sc #[H (jt<|im bs).1,X ga gm gc] 25)):=Xb Rf _;have b4:=Y (Bx.new q #[H (jt<|im bs).1,X ga gm gc] 25);have bx:Z (D z (Sc #[H (jt<|im bs).1,X O_ L P] 25)).1=Z z.1+1:=aO _ _;have cd:Z (D q (Sc #[H (jt<|im bs).1,X ga gm gc] 25)).1=Z q.1+1:=aO _ _;go_wp2_with fail
 have ap:=Xg aj s.2;have r:=Xg ap x;have T:=Y<|Xg g.2 r;have S_:=Y<|(g.3.keep r).mono aN r.4;have V_:=Y<|(s.3.keep x).mono aN x.4;have ar:=Y<|g.4.keep (g.3.mono aN aA) r;obtain⟨ca,cc,rfl,a9⟩:=g.7.ints;obtain⟨da,dc,rfl,ba⟩:=s.7.ints;have Y_:=Y<|(a9.keep r).mono aA r.4;have Z_:=Y<|(ba.keep x).mono aA x.4;have t:=Y<|a4.keep ((Xg s.2 x).5 _ O);have ab:=Y g.1;have az:=Y s.1;have L_:=Y g.5;have bo:=g.6;have bq:=UT<|im bs;have ce:Z z.1<Z q.1:=oN s.2.4;clear a4 g s a9 ba aj x ap r;generalize D q _=i at*;clear bx;generalize (jt<|im bs).1=vals at*;generalize (jt<|im bs).2=b at*;generalize br:vQ (im bs)=a at*;generalize zK (im bs)=k at*;clear br;obtain⟨U_,K_⟩:∃U_,Q (U_=J a):=⟨_,Y R⟩;simp only[<-K_.o]at bq |-;have l:=Bx.c t.o 0;have m:=Bx.c t.o 1;by_cases hg:(1<=k/\k<=64)/\MD vals b a k=So
 .obtain⟨R_,M⟩:=hg
  obtain⟨bn,rfl,Q_,bc,bp⟩:=Np M;refine(R3 R_ M Q_.ok L_.o F.o K.o hZ.o T.o az.o V_.o Z_.o K_.o).mono ?_;rintro h C⟨V,W,rfl,al,am⟩;have f:Sw (Z i.1) i (D C (Sc #[H k,X V (J (NK a b)) W] 31)):=Xg al<|Xb Rf _;have e:=Y (Bx.new C #[H k,X V (J (NK a b)) W] 31);have C_:=Y<|Xg T.o f;have b1:=f.4;have B:=Y<|S_.keep f;have aa:=Y<|Y_.keep f;have j:=Y<|t.keep (f.5 _ t.lt);clear l m;have l:=Bx.c j.o 0;have m:=Bx.c j.o 1;have u:=Bx.c e.o 0;have v:=Bx.c e.o 1;have af:=QA a Q_.ok;have b8:=af.1;have a0:Q (d7 (D C (Sc #[H k,X V (J (NK a b)) W] 31)) 0 (Z (D C (Sc #[H k,X V (J (NK a b)) W] 31)).1) V (NK a b)):=Y ((am.at_.keep<|Xb Rf (Sc #[H k,X V (J (NK a b)) W] 31)).mono aN (by rw[aO];omega));have bt:=am.cap;have au:=Y<|ar.keep S_.o f;have ao:=Q_.valid R_.1 R_.2 bo;have a2:Q (J (NK a b)+Rp (NK a b)<=1048576):=Y (by
   have a7:=ao;unfold nK sj at a7;simp only[bY,bD]at a7;have cb:=wI<|NK a b;omega)
  have bi:=Y af;have a3:=Y ao;have bh:=Y Q_;have bm:=Y bc;have k1:¬k<1:=O;have k2:¬64<k:=O;clear am af ao Q_ bc bp S_ V_ Y_ Z_ t ar;generalize NK a b=ad at*;generalize bb:J ad=mn at*;have a1:=Y bb.symm;have bl:Q (J ad+Rp ad<=1048576):=Y<|oN a2.o;clear bb a2;go_wp2_with fail
  refine(BC (bn:I) O_ L P b 0 (Z i.1) ca U_ cc a 0 (Z i.1) k _ B ab L_ O aa K_ O O).mono ?_;rintro h w6⟨rfl,d⟩;rw[M];clear u v l m;have M_:=Y<|e.keep (d.5 _ e.lt);have u:=Bx.c M_.o 0;have v:=Bx.c M_.o 1;have N_:=Y<|j.keep (d.5 _ j.lt);have l:=Bx.c N_.o 0;have m:=Bx.c N_.o 1;have D_:=Y<|Xg C_.o d;have W_:=Y<|B.keep (d.mono O);have ac:=Y<|a0.keep d;have aq:=Y<|au.keep B.o (d.mono O);have bd:=d.4;clear d e j C_ B a0 au;have b6:=ab.o;have b7:Jd ((L:I)<=(mn:I))=So:=eB O;go_wp2_with fail
  refine(Dz k W 0 (Y<|ac.mono aA O) a1 bl aA (Y (F.keep D_.o F.1).old) (Y (K.keep D_.o K.1).old)).mono ?_;rintro h w7⟨rfl,o⟩;rw[a3.o];clear u v l m;have a5:=Y<|M_.keep (o.5 _ M_.lt);have u:=Bx.c a5.o 0;have v:=Bx.c a5.o 1;have a6:=Y<|N_.keep (o.5 _ N_.lt);have l:=Bx.c a6.o 0;have m:=Bx.c a6.o 1;have X_:=Y<|Xg D_.o o;have b3:=o.4;have be:=Y ((W_.keep<|o.mono O).mono aA (show Z i.1<=Z w7.1 by omega));have bk:=Y<|(ac.keep<|o.mono bd).mono aA (aJ bd b3);have bg:=Y<|aq.keep W_.o (o.mono O);clear o M_ N_ W_ ac aq D_;go_wp2_with fail
  refine(Lg be bk aA (Y R) a1 bt bh R_.1 R_.2 bi bm L_ a3 bg (Y<|F.keep X_.o F.1) (Y<|K.keep X_.o K.1)).mono ?_;rintro h w8⟨rfl,a8⟩;have bf:=Y<|Xg X_.o a8;clear a8;go_wp2;go_ret;exact⟨R,bf.o⟩
 have M:1<=k->k<=64->MD vals b a k=Sn:=λh1 h2=>by
  cases hq:MD vals b a k with
  |false=>rfl
  |true=>exact Sz ⟨⟨h1,h2⟩,hq⟩ hg
 refine(Qp M L_.o F.o K.o hZ.o T.o az.o V_.o Z_.o K_.o O).mono ?_;rintro h C⟨rfl,al⟩;have f:Sw (Z i.1) i (D C (Sc #[H 0,Hq] 31)):=Xg al<|Xb Rf _;have e:=Y (Bx.new C #[H 0,Hq] 31);have C_:=Y<|Xg T.o f;have b1:=f.4;have B:=Y<|S_.keep f;have aa:=Y<|Y_.keep f;have j:=Y<|t.keep (f.5 _ t.lt);clear l m;have l:=Bx.c j.o 0;have m:=Bx.c j.o 1;have u:=Bx.c e.o 0;have v:=Bx.c e.o 1;by_cases k1:k<1
 .go_wp2;go_ret;exact⟨R,C_.o⟩
 by_cases k2:64<k
 .go_wp2;go_ret;exact⟨R,C_.o⟩
 have bv:=M O O;go_wp2_with fail
 refine(BC vals O_ L P b 0 (Z i.1) ca U_ cc a 0 (Z i.1) k _ B ab L_ O aa K_ O O).mono ?_;rintro h w6⟨rfl,d⟩;rw[bv];clear u v;have u:=Bx.c (e.keep<|d.5 _ e.lt) 0;have v:=Bx.c (e.keep<|d.5 _ e.lt) 1;have D_:=Y<|Xg C_.o d;clear d;go_wp2;go_ret;exact⟨R,D_.o⟩
end Go.Proofs.YtcncjgijikoapaaGreatDoor
