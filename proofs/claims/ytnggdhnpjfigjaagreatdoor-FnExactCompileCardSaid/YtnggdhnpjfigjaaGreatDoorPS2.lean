import Derived.Test.YtnggdhnpjfigjaaGreatDoorPS1
import Derived.Test.YtnggdhnpjfigjaaGreatDoorOP2
import Derived.Test.YtnggdhnpjfigjaaGreatDoorQY
namespace Go.Proofs.YtnggdhnpjfigjaaGreatDoor
set_option maxHeartbeats 4000000
set_option maxRecDepth 100000
open _root_ renaming Array.size->Z,List.length->J,Nat->N,Option.some->S,Int->I,rfl->R,Option.none->U,Bool.true->So,Bool.false->Sn,absurd->Sz
open Value renaming slice->X,agg->Sa,int->Si,string->Sg
open Go renaming Ending.returned->Rt,RowKit.Below->Sw,Calls->Sk,World.cell?->E,World.alloc->D,Obj.cells->Sc,IntKind.i64->S6,World.ownsRow->Sx
open Go.RowKit Go.Proofs.Tryz
variable{t T z:I}{n m k B c:N}{w:Ub}{a:Uj}{p:Uy}{l:Wc}{x:Wi}{y:Wo}
theorem Lu{a:Wn}(ha:Q (Yx w m k p a))(b:Q (n=J a))(o:n<=c)(l:n<=9223372036854775807)(f:k<=Z w.1):
 Sk prog 16 #[X p n c] w λg e=>∃val,g=Rt val/\Sw (Z w.1) w e/\nN e (Z w.1) (Z e.1) val (C2 a):=by
 by_cases h:100000<n;·exact JU b h l
 by_cases d:a.getLast?=S 10
 .have i:0<J a:=by
   cases a with
   |nil=>cases d
   |cons x s=>simp
  obtain⟨q,r,rfl,⟨_,j⟩,-⟩:=ha 0 i;exact KM ha b (oN b.o) O o f j (Y d)
 exact JH ha b O f<|Y d
theorem wJ(h:XJ ⟨t,x⟩=So):∃n:N,t=(n:I):=by
 simp only[XJ,bY]at h;let⟨⟨⟨⟨a,_⟩,_⟩,_⟩,_⟩:=h;simp only[Y6,bY,bD]at a;exact bX a.1.1.1.1
theorem nM:jy w n m t T z 0 [] (Sa #[H t,H T,H z,H 0,Hq]):=⟨U,0,0,R,U,0,0,R,λi h=>Sz h<|Nat.not_lt_zero _,R,vY,λy a=>Sz a sP⟩
theorem KX{C:Wn}(ha:Q (Yx w m k p C))(B:Q (n=J C))(bx:n<=c)(bv:n<=9223372036854775807)(hB:k<=Z w.1)(s:Pg)(q:Q (f8 (C2 C) t=s))(ht:Q (J (C2 C).3.2+Xx (C2 C).3.2<=100000)):
 Sk prog 10 #[X p n c,H t] w λy w'=>∃az,y=Rt az/\Sw (Z w.1) w w'/\jy w' (Z w.1) (Z w'.1) s.1 s.2 s.3 s.k s.l az:=by
 let⟨f,i⟩:∃f,D w (Sc #[H 0,H 0,H 0,H 0,Hq] 32)=f:=⟨_,R⟩;have x:Q (∀W,Sw (Z f.1) f W->Sw (Z w.1) w W/\Z w.1<Z W.1/\(E W (A (Z w.1) 0)=S (H 0)/\E W (A (Z w.1) 1)=S (H 0)/\E W (A (Z w.1) 2)=S (H 0)/\E W (A (Z w.1) 3)=S (H 0)/\E W (A (Z w.1) 4)=S Hq)/\∀U_,W.frozen? (A (Z w.1) U_)=Sn):=Y (λW h=>by
  have hz:Z f.1=Z w.1+1:=by rw[<-i];exact aO _ _
  have g:=h.5 (Z w.1) O;have hs:=h.4;exact⟨(show Sw (Z w.1) w f by rw[<-i];exact Xb Rf _).trans (h.mono O),O,⟨G (Xc g) (by rw[<-i];simp),G (Xc g) (by rw[<-i];simp),G (Xc g) (by rw[<-i];simp),G (Xc g) (by rw[<-i];simp),G (Xc g) (by rw[<-i];simp)⟩,λU_=>G (bJ g) (by rw[<-i];simp)⟩)
 have h0:=(x f<|Rf).1;have HP:=Y<|Lu (Y<|ha.keep (h0.mono hB)) B bx bv (oN h0.4);clear ha B h0;generalize C2 C=U_ at*;let⟨co,li,X_,a⟩:=U_;dsimp only at*
 go_in
 go_wp2_with fail
 clear i;refine HP.mono ?_;rintro y d⟨val,rfl,af,Y_,Z_,rfl,S_⟩;let⟨b,cc,⟨L,M,P,K,L_⟩,rz⟩:=x d af;have bi:=Y b;have a0:=Y af;have HY:=Y S_;clear b af S_ HP;dsimp only;by_cases al:co=0
 .subst al
  let⟨v,F⟩:∃v,D d (Sc #[H 0,H li,H X_,X Y_ (J a) Z_] 42)=v:=⟨_,R⟩;have E_:Q (∀W,Sw (Z v.1) v W->Sw (Z f.1) f W/\Z d.1<Z W.1/\(E W (A (Z d.1) 0)=S (H 0)/\E W (A (Z d.1) 2)=S (H X_)/\E W (A (Z d.1) 3)=S (X Y_ (J a) Z_))/\Xp W (Z f.1) (Z d.1) Y_ a):=Y (λW h=>by
   have hz:Z v.1=Z d.1+1:=by rw[<-F];exact aO _ _
   have g:=h.5 (Z d.1) O;have hs:=h.4;have k1:=(show Sw (Z d.1) d v by rw[<-F];exact Xb Rf _).trans (h.mono O);exact⟨Xg a0 k1,O,⟨G (Xc g) (by rw[<-F];simp),G (Xc g) (by rw[<-F];simp),G (Xc g) (by rw[<-F];simp)⟩,HY.keep k1⟩)
  have O_:Q (J a+Xx a<=1048576):=Y<|oN ht.o;let⟨hA,ch,⟨p0,p1,p2⟩,bf⟩:=E_ v<|Rf;have a8:=Y bf;have bn:=Y hA;clear bf hA a0;go_wp2_with fail
  clear F L M P K L_ rz;by_cases r:Ft X_ a=0
  .have R_:=pM r;obtain⟨V,rfl⟩:=wJ R_;have o:=Y r;have a6:=Y R_;have l:=Y<|XH R_;have hV:=l.2;have ca:=@B7 a V;clear r R_;refine(Lj a8 (Y R) O_ O o a6 l).mono ?_;rintro y e⟨b6,F_,P_,hP,rfl,z,b8,a9⟩;obtain rfl:=vK hP l.1.model;have a1:Q (HK e F_ V P_<|PK V a):=Y a9;let⟨ac,b0,⟨p0,p1,p2⟩,bd⟩:=E_ e z;have b5:=Y bd;have b4:=Y ac;have aa:=Y z;let⟨b,cd,⟨L,M,P,K,L_⟩,rz⟩:=x e ac;have M_:=Y b;clear hP z a9 bd ac b;generalize NE _ V=ct;generalize bc:NW (Zw a V (J a))=T at*;have D_:=Y bc;clear bc;by_cases br:t<1
   .go_wp2;exact cC (v:=Sa #[H 12,H 0,H 0,H 0,Hq]) (by simp[results,results10,go_sem, *]) R ⟨_,R,by repeat' (first|with_reducible exact M_.o|with_reducible refine Below.setCell ?_ ?_ _|with_reducible refine Xb ?_ _|exact aA),by rw[<-q.o];unfold f8;rw[aM λh=>h R,aM λh=>h o.o,aU<|bC br];exact nM⟩
   by_cases bt:64<t
   .go_wp2;exact cC (v:=Sa #[H 12,H 0,H 0,H 0,Hq]) (by simp[results,results10,go_sem, *]) R ⟨_,R,by repeat' (first|with_reducible exact M_.o|with_reducible refine Below.setCell ?_ ?_ _|with_reducible refine Xb ?_ _|exact aA),by rw[<-q.o];unfold f8;rw[aM λh=>h R,aM λh=>h o.o,aU<|aZ bt];exact nM⟩
   let⟨j,G_⟩:∃j,D e (Sc #[H 0,Hl F_ V P_,H ct] 45)=j:=⟨_,R⟩;have ci:Z j.1=Z e.1+1:=by rw[<-G_];exact aO _ _
   have cq:E j (A (Z e.1) 0)=S (H 0):=by rw[<-G_];simp
   have N_:Q (Sw (Z e.1) e j/\E j (A (Z e.1) 1)=S (Hl F_ V P_)):=Y ⟨by rw[<-G_];exact Xb Rf _,by rw[<-G_];simp⟩;have HS:=Y λ(W:Ub)(h:Sw (Z j.1) j W)=>C8 (J a) Z_ (Y (E_.o W<|Xg aa (Xg N_.1 h)).2.2.2) (Y R) O_ (oN h.4) a6 l;rw[D_.o]at HS;let⟨_,_,⟨cl,cm,cn⟩,_⟩:=E_ j<|Xg aa N_.1;go_wp2_with fail
   clear G_;refine(HS _<|Rf).mono ?_;rintro y u⟨rfl,Q_⟩;have ao:=Xg N_.1 Q_;let⟨ad,ce,⟨p0,p1,p2⟩,be⟩:=E_ u<|Xg aa ao;have q1:=G (XU Q_ O) N_.2;let⟨b,cf,⟨L,M,P,K,L_⟩,rz⟩:=x u ad;have bl:=Y b;have a7:=Y be;have bo:=Y ao;have bh:=Y ad;have cj:Z e.1<Z u.1:=oN Q_.4;clear Q_ ao ad b be HS;by_cases bb:t<(T:I)
   .go_wp2;exact cC (v:=Sa #[H 13,H 0,H T,H 0,Hq]) (by simp[results,results10,go_sem, *]) R ⟨_,R,by repeat' (first|with_reducible exact bl.o|with_reducible refine Below.setCell ?_ ?_ _|with_reducible refine Xb ?_ _|exact aA),by rw[<-q.o];unfold f8;rw[aM λh=>h R,aM λh=>h o.o,aM O,aU<|by dsimp only;rw[dM,D_.o];exact bb];dsimp only;rw[dM,D_.o];exact nM⟩
   have a5:=Y (wK o (k:=t) (by rw[D_.o];omega) O);have ab:Q (Xf u 0 (Z u.1) (S ⟨F_,0,U⟩) (OJ V a)):=Y (a1.of_block<|bo.5 F_ a1.lt).ints;have a4:=Y (λ(W:Ub)(h:Sw (Z u.1) u W)=>MF Y_ (J a) Z_ (Z f.1) (Z d.1) V P_ (Y<|a7.keep (h.mono O)) (Y R) O_ (oN h.4) (Y<|ab.keep h) (Y<|by simp[OJ]) h.4 O a5);have a2:=Y (yo (OJ V a) a l.1.2 λar B=>(l.10 ar B).1);have a3:=Y (Mx a7 (Y R) O l (Y λar B=>by have:=l.10 ar B;omega) ab (Y<|by simp[OJ]) (Y R) aA ⟨O,O⟩ a4);have bq:Q (s=⟨0,0,T,t,NK (OJ V a) a⟩):=Y (by rw[<-q.o];unfold f8;rw[aM λh=>h R,aM λh=>h o,aM O];dsimp only;rw[dM,D_.o,aM bb]);clear a4 a5 ab q;generalize NK (OJ V a) a=b1 at*;go_wp2_with fail
   refine a3.mono ?_;rintro y w4⟨ap,aq,rfl,aj,ba⟩;let⟨b,cg,⟨L,M,P,K,L_⟩,rz⟩:=x.o w4<|Xg bh.o aj;have bm:=Y b;have bp:=Y ba;have ck:=aj.4;clear b aj ba a3;go_wp2;refine cC (v:=Sa #[H 0,H 0,H T,H t,X ap (J b1) aq]) (by simp[results,results10,go_sem, *]) R ⟨_,R,by repeat' (first|with_reducible exact bm.o|with_reducible refine Below.setCell ?_ ?_ _|with_reducible refine Xb ?_ _|exact aA),?_⟩;rw[bq.o];refine⟨ap,_,aq,R,ap,_,aq,R,(bp.keepS λcp q1 _=>?_).mono O sP,R,a2.1,λb3 S_=>by have:=a2.2 b3 S_;omega⟩
   repeat rw[Below.heap_setCell _ _ _ _<|by dsimp only;omega]
  refine(LT a8 (Y R) O_ O r).mono ?_;rintro y e⟨rfl,z⟩;let⟨b,b0,⟨L,M,P,K,L_⟩,rz⟩:=x.o e<|Xg bn.o z;have M_:=Y b;have cb:=jJ.2 r;clear b z;have o:=Y r;clear r;go_wp2;exact cC (v:=Sa #[H<|Ft X_ a,H 0,H 0,H 0,Hq]) (by simp[results,results10,go_sem, *]) R ⟨_,R,by repeat' (first|with_reducible exact M_.o|with_reducible refine Below.setCell ?_ ?_ _|with_reducible refine Xb ?_ _|exact aA),by rw[<-q.o];unfold f8;rw[aM λh=>h R,aU o.o];exact nM⟩
 have b7:=jJ.2 al;go_wp2;exact cC (v:=Sa #[H co,H li,H 0,H 0,Hq]) (by simp[results,results10,go_sem, *]) R ⟨_,R,by repeat' (first|with_reducible exact bi.o|with_reducible refine Below.setCell ?_ ?_ _|with_reducible refine Xb ?_ _|exact aA),by rw[<-q.o];unfold f8;rw[aU al];exact nM⟩
theorem zL:∀(ls:Vw)(i:N)(s a:NX),dy ls i s=.ok a->TT a<=TT s+Tn ls
 |[],i,s,a,h=>by
  simp only[dy,Bd.ok.injEq]at h;subst h;omega
 |l::ls,i,s,a,h=>by
  have e:Tn (l::ls)=J l+Tn ls:=by simp[Tn]
  cases hl:bk s l with
  |bad c=>simp only[dy,hl]at h;cases h
  |ok s1=>
   simp only[dy,hl]at h;have b:=sw hl;have d:=zL ls (i+1) s1 a h;omega
theorem LF(a:Wn):J (C2 a).3.2+Xx (C2 a).3.2<=100000:=by
 unfold C2;split;·simp[au,Xx]
 rename_i e;split;·simp[au,Xx]
 unfold p8;split;·simp[au,Xx]
 unfold mi;split;·simp[au,Xx]
 rename_i s d;split;·simp[au,Xx]
 rename_i c;split
 .have b:=zL _ _ _ _ d
  have f:=yW a;have g:Tn (Fa a).tail<=Tn (Fa a):=by
   cases Fa a with
   |nil=>simp[Tn]
   |cons l r=>simp[Tn]
  simp only[TT,c]at b;simp only[Xx,fZ,List.sum_nil,bO]at b;show J s.1+Xx s.1<=100000;unfold Xx;omega
 simp[au,Xx]
theorem Qb:(prog.info? 5).map (λi=>(i.8,i.3,i.4))=S (S<|.int .u8 0,1,1):=vZ
theorem pL{d:Wn}(ha:Q (Yx w m k p d))(q:Q (n=J d))(K:n<=1048576)(B:k<=Z w.1):
 Sk prog 5 #[X p n c] w λe h=>e=Rt (Hl (Z w.1) n n)/\Sw (Z w.1) w h/\Yx h (Z w.1) (Z h.1) (S ⟨Z w.1,0,U⟩) d/\ij (Z w.1) h:=by
 have F:=fM (P:=prog) 22 5 (Si .u8 0) 1 underlying22 Qb R S6 S6 n O O
 go_in
 go_wp2
 go_loopw [4] (λr wr=>∃a:N,a<=n/\r=Si S6 a/\Sw (Z w.1) w wr/\Q (ij (Z w.1) wr)/\Q (∃f,wr.rowIs (Z w.1) 5 n f/\∀j (s:j<J d),j<a->f j=Si .u8 (d[j].toNat:I))) λr _=>n-(intOf r).toNat
 case atStart=>exact⟨0,aN,R,Xb Rf _,(ij.start _).alloc _ _,⟨_,dG _ _ _ _,λj _ s=>Sz s O⟩⟩
 obtain⟨a,L,rfl,o,u,i⟩:=hrel;by_cases z:a<n
 .have y:a<J d:=oN q.o;obtain⟨M,P,rfl,⟨_,C⟩,t⟩:=ha a y;have e1:=G (XU o O) t;obtain⟨f,b,g⟩:=i.o;have e2:=b.cell z;have e3:=b.frozen a;have v:=Y g;have x:=Y b;clear t i g b;go_wp2;refine⟨⟨a+1,O,gM,o.setCell aA _,u.setCell _ _,⟨_,x.set a _,λj l T=>?_⟩⟩,SA⟩;by_cases e:j=a;·subst e;simp
  simp only[e,fD];exact v j l O
 go_wp2;go_ret;obtain⟨f,b,g⟩:=i.o;refine⟨R,o,λj l=>⟨Z w.1,0,R,⟨aA,b.lt⟩,?_⟩,u⟩;rw[aV,b.cell<|oN q.o,g j l<|oN q.o]
theorem Wd0_(h:Sx w n m k a B y)(d:0<B):a≠X U 0 0:=by
 obtain⟨_,b,_⟩|⟨g,c,rfl,_⟩:=Vc h;·omega
 exact nofun
theorem Wc0_{b c:Wn}(W:Ub)(r:m=Z W.1)(d:n<=Z W.1)(q:Q (Sx W n 5 1 a (J b) (Wab_ b)))(p:Q (J b+J (Wbg_ c l)<=1000000000000))(k:Q (∀v∈l,Wbn_ v))(t:Q (Wb1_ n W)):
 Sk prog 14 #[a,Sg (K8 c),X (S ⟨m,0,U⟩) (J l) (J l)] (D W (Sc (l.map<|Value.int S6).toArray 2)) λe f=>
  ∃v,e=Rt v/\Wb3_ n W f/\Sx f n 5 1 v (J (b++Wbg_ c l)) (Wab_<|b++Wbg_ c l):=by
 subst r;have s:=Wcg_ (B:=n) (B0:=n) (g:=Z W.1) (w':=D W (Sc (l.map<|Value.int S6).toArray 2)) (qs:=l) ⟨_,_,heap_alloc_new W _⟩ d (λu j=>by
  obtain⟨w,o,e,_,h⟩:=Wbk_ W l u j;cases e;exact h)
 refine(Wb6_ n _ SB (Y<|q.alloc _) p (Y s) (Y R) k (Y<|t.on ((Rf).alloc d _))).mono ?_;rintro e f⟨v,rfl,g,i⟩;exact⟨v,R,((Wb3_.refl n W).alloc d _).trans g,i⟩
theorem Wc1_(V:I)(l:Uy)(n c:N)(a:List ag)(N_ B:N)(w:Ub)(ha:Q (d7 w N_ B l a))(x:Q (n=J a))(v:Q (J a+Wae_ a<=16777216))(s:B<=Z w.1)(K:Q (Yy w))(F:Q (Yb w))(O_:Q (Wb1_ (Z w.1) w)):
 Sk prog 15 #[Sa #[Si S6 V,X l n c]] w λm w'=>∃y,m=Rt y/\Sw (Z w.1) w w'/\y≠X U 0 0/\Sx w' (Z w.1) 5 1 y (J (Wcz_ V a)) (Wab_<|Wcz_ V a):=by
 have bd:0 < Z w.1/\1 < Z w.1:=⟨K.1,F.1⟩;cases i:Wao_ V a with
 |false=>
  have M_:=Y i;have J_:Q (Wcz_ V a=[]):=Y (by unfold Wcz_;rw[i];rfl);clear i
  go_in
  go_wp2_with fail
  refine(Wcl_ (Y<|ha.keep ((Xb (Below.refl (Z w.1) w) _).mono s)) x v SB (Y (K.keep (Xb (Below.refl (Z w.1) w) _) O).old) (Y (F.keep (Xb (Below.refl (Z w.1) w) _) O).old)).mono ?_;rintro m b⟨rfl,g⟩;rw[M_.o];go_wp2;go_ret;have hz:Z w.1+1<=Z b.1:=by have:=g.size;simpa using this
  refine⟨_,R,Xb (((Xb (Below.refl (Z w.1) w) _)).trans (g.mono sP)) _,nofun,?_⟩;rw[J_.o];exact Zk (Wcm_ _) O
 |true=>
  have M_:=Y i;have J_:Q (Wcz_ V a=Wcr_ V a):=Y (by unfold Wcz_;rw[i];rfl);obtain⟨Q_,R_⟩:=Wcy_ i;have O1:=Y Q_;have O2:=Y R_;have hn:n<=16777216:=by have:=x.o;have:=v.o;omega
  have ab:Q (J (Wcr_ V a)<=1000000000000):=Y (by have:=Wcv_ Q_ R_;have L:=v.o;omega);clear i Q_ R_;have S_:Q (∀b,Sw (Z (D w (Sc #[Si S6 V,X l n c] 30)).1) (D w (Sc #[Si S6 V,X l n c] 30)) b->Z w.1+1<=Z b.1/\E b ⟨Z w.1,0,U⟩=S (Si S6 V)/\E b ⟨Z w.1,1,U⟩=S (X l n c)/\Q (Sw (Z w.1) w b)):=Y (λb g=>by
   refine⟨by have:=g.size;simpa using this,G (g.cell (p:=⟨Z w.1,0,U⟩) sP) sP,G (g.cell (p:=⟨Z w.1,1,U⟩) sP) sP,Y<|(Xb (Below.refl (Z w.1) w) _).trans (g.mono sP)⟩)
  go_in
  go_wp2_with fail
  refine(Wcl_ (Y<|ha.keep ((Xb (Below.refl (Z w.1) w) _).mono s)) x v SB (Y (K.keep (Xb (Below.refl (Z w.1) w) _) O).old) (Y (F.keep (Xb (Below.refl (Z w.1) w) _) O).old)).mono ?_;rintro m b⟨rfl,g⟩;rw[M_.o];obtain⟨hz,k0,k1,I_⟩:=S_.o _ g;have U_:Q (∃c C,b.1[Z w.1]?=S (Sc c 30 C)):=Y ⟨_,_,G (g.block (Z w.1) sP) (heap_alloc_new w _)⟩;clear g;have bm:Z w.1<Z b.1:=O;have Y_:Q (Wb3_ (Z w.1) w b):=Y<|Wb3_.calm I_.o (aA);have a4:Q (J ([]:Wn)+J (Wbg_ [109,97,99,104] [V])<=1000000000000):=Y (by have:=ab.o;unfold Wcr_ at this;simp only[aQ,bO]at this |-;omega);have aa:Q (∀d,Wb3_ (Z w.1) (D b (Sc #[] 5)) d->Wb3_ (Z w.1) w d/\E d ⟨Z w.1,1,U⟩=S (X l n c)):=Y (λd hk=>by
   obtain⟨c0,C,hh⟩:=U_.o;have h:Wb3_ (Z w.1) b d:=((Wb3_.refl _ b).alloc O _).trans hk;have L:=h.kept (Z w.1) _ hh sP (λc' bp e'=>by cases e');exact⟨Y_.trans h,G (Xc<|G L hh.symm) k1⟩)
  go_wp2_with (go_at_call 14;refine(Wc0_ (D b (Sc #[] 5)) sP SB (Y<|Zk (Wcm_ b) O) a4 (Y λy ad=>by simp at ad;exact ad▸O1.o) (Y<|O_.on ((I_.alloc O _)))).mono ?_;rintro m d⟨x2,rfl,j,u⟩;obtain⟨aj,k2⟩:=aa.o _ j;have Z_:=Y aj;have ac:=Y u;clear j aj u)
  go_loopw [3,18] (λbo M wr=>∃k:N,k<=n/\M=Si S6 k/\Q (Wb3_ (Z w.1) w wr)/\Q (Sx wr (Z w.1) 5 1 bo (J (Wbg_ [109,97,99,104] [V]++(a.take k).flatMap Wcq_)) (Wab_<|Wbg_ [109,97,99,104] [V]++(a.take k).flatMap Wcq_))) λ_ M _=>n-(intOf M).toNat
  case atStart=>exact⟨0,aN,R,Z_,Y<|by simpa using ac.o⟩
  clear Z_ ac Y_ I_ U_ aa S_ k0 k1 k2 hz bm;obtain⟨k,hk,rfl,HK,L_⟩:=hrel;have bx:=HK.below.size;by_cases bt:k<n
  .have t:k<J a:=by have:=x.o;omega
   have z:=Y<|O2.o a[k] (aH t);obtain⟨bc,o_,rfl,⟨br,bq⟩,hc⟩:=ha.o k t;have be:=hc.keepS (YA.of_below<|HK.below.mono s) (HK.below.block bc O);obtain⟨e,f,e1,⟨t0,t1,t2,t3⟩,P⟩:=be;have W_:=Y P;clear P hc;have HT:Q (Wbg_ [109,97,99,104] [V]++(a.take<|k+1).flatMap Wcq_=(Wbg_ [109,97,99,104] [V]++(a.take k).flatMap Wcq_)++Wcq_ a[k]):=Y (by rw[X7 t,eZ];simp);have HL:Q (J (Wbg_ [109,97,99,104] [V]++(a.take k).flatMap Wcq_)+J (Wcq_ a[k])<=1000000000000):=Y (by have h:=ab.o;have L:=Wbx_ Wcq_ t;unfold Wcr_ at h;rw[L]at h;simp only[aQ]at h |-;omega);have az:Q (J a[k].is<=16777216):=Y (by have h:=Wal_<|aH t;have h3:=v.o;omega);generalize a[k]=o at*;generalize Wbg_ [109,97,99,104] [V]++(a.take k).flatMap Wcq_=T at*;have a5:Q (J T+J (Wbg_ [98,108,111,99,107] [])<=1000000000000):=Y (by have:=HL.o;unfold Wcq_ at this;simp only[aQ]at this;omega);have a9:Q (Sx (D wr (Sc #[X e (J o.is) f,Si S6 o.te.kind,Si S6 o.te.a,Si S6 o.te.to,Si S6 o.te.els] 56)) (Z w.1) 5 1 u3 (J T) (Wab_ T)):=Y<|L_.alloc _;have K_:Q (Wb3_ (Z w.1) w<|D wr (Sc #[X e (J o.is) f,Si S6 o.te.kind,Si S6 o.te.a,Si S6 o.te.to,Si S6 o.te.els] 56)):=Y<|HK.alloc O _;have hq:E (D wr (Sc #[X e (J o.is) f,Si S6 o.te.kind,Si S6 o.te.a,Si S6 o.te.to,Si S6 o.te.els] 56)) ⟨Z wr.1,0,U⟩=S (X e (J o.is) f)/\E (D wr (Sc #[X e (J o.is) f,Si S6 o.te.kind,Si S6 o.te.a,Si S6 o.te.to,Si S6 o.te.els] 56)) ⟨Z wr.1,1,U⟩=S (Si S6 o.te.kind)/\E (D wr (Sc #[X e (J o.is) f,Si S6 o.te.kind,Si S6 o.te.a,Si S6 o.te.to,Si S6 o.te.els] 56)) ⟨Z wr.1,2,U⟩=S (Si S6 o.te.a)/\E (D wr (Sc #[X e (J o.is) f,Si S6 o.te.kind,Si S6 o.te.a,Si S6 o.te.to,Si S6 o.te.els] 56)) ⟨Z wr.1,3,U⟩=S (Si S6 o.te.to)/\E (D wr (Sc #[X e (J o.is) f,Si S6 o.te.kind,Si S6 o.te.a,Si S6 o.te.to,Si S6 o.te.els] 56)) ⟨Z wr.1,4,U⟩=S (Si S6 o.te.els):=by
    refine⟨?_,?_,?_,?_,?_⟩<;>simp
   have q:=Y hq;have ar:Q (∃c C,(D wr (Sc #[X e (J o.is) f,Si S6 o.te.kind,Si S6 o.te.a,Si S6 o.te.to,Si S6 o.te.els] 56)).1[Z wr.1]?=S (Sc c 56 C)):=Y ⟨_,_,heap_alloc_new wr _⟩;have ao:Z wr.1<Z (D wr (Sc #[X e (J o.is) f,Si S6 o.te.kind,Si S6 o.te.a,Si S6 o.te.to,Si S6 o.te.els] 56)).1:=sP;have a0:Q (YY (D wr (Sc #[X e (J o.is) f,Si S6 o.te.kind,Si S6 o.te.a,Si S6 o.te.to,Si S6 o.te.els] 56)) N_ B e o.is):=Y<|W_.keep ((Xb (Below.refl (Z wr.1) wr) _).mono O);clear hq;go_wp2_with fail
   generalize D wr (Sc #[X e (J o.is) f,Si S6 o.te.kind,Si S6 o.te.a,Si S6 o.te.to,Si S6 o.te.els] 56)=WX at*;have ba:=Y ao;clear ao e1 t0 t1 t2 t3 W_ L_ HK;have bl:=K_.below.size;refine(Wb6_ 0 0 bl a9 a5 (Y λ_ _ M P=>Sz P sP) (Y R) (Y λy i=>by cases i) (Y<|O_.on K_.below)).mono ?_;rintro m d⟨x2,rfl,j,u⟩;have p:=j.block ar.o vY;have c1:E d ⟨Z wr.1,0,U⟩=S (X e (J o.is) f):=G (Xc p) q.1;have c2:E d ⟨Z wr.1,1,U⟩=S (Si S6 o.te.kind):=G (Xc p) q.2.1;have c3:E d ⟨Z wr.1,2,U⟩=S (Si S6 o.te.a):=G (Xc p) q.2.2.1;have c4:E d ⟨Z wr.1,3,U⟩=S (Si S6 o.te.to):=G (Xc p) q.2.2.2.1;have c5:E d ⟨Z wr.1,4,U⟩=S (Si S6 o.te.els):=G (Xc p) q.2.2.2.2;have r:Q (Wb3_ (Z w.1) w d):=Y<|K_.trans j;have b0:=j.below.size;have bi:Z w.1<=Z d.1:=r.below.size;have W:=Y u;have a1:Q (YY d N_ B e o.is):=Y<|a0.keepS (YA.of_below<|j.below.mono s);have bv:Z wr.1<Z d.1:=by have:=ba.o;omega
   clear j u p;have HX:Q (Wbg_ [109,97,99,104] [V]++(a.take<|k+1).flatMap Wcq_=(T++Wbg_ [98,108,111,99,107] [])++Wco_ o.is o.te):=Y (by rw[HT.o];simp[Wcq_]);have a6:Q (J (T++Wbg_ [98,108,111,99,107] [])+J (Wco_ o.is o.te)<=1000000000000):=Y (by
    have h:=HL.o;unfold Wcq_ at h;simp only[aQ]at h |-;omega)
   generalize T++Wbg_ [98,108,111,99,107] []=TT at*;have a2:=Y z.is;have a3:=Y z.te;have a8:=Y z.ops;have P_:=Y z.kind;generalize o.te=bb at*;obtain⟨bn,za,b3,b1⟩:=bb;obtain⟨ap,hm⟩:=bX (show 0<=bn by have:=P_.o;(try simp only at this);omega);subst hm;have bf:1<=ap:=by have:=P_.o;(try simp only at this);omega
   have bh:ap<=3:=by have:=P_.o;(try simp only at this);omega
   (try simp only at c2 c3 c4 c5)
   go_wp2_with (go_at_call 32;refine(Wcf_ bi s a1 (Y R) az.o a8 bf bh bd W a6 a2 a3 (Y<|O_.on r.below) (Y<|K.keep r.below O) (Y<|F.keep r.below O)).mono ?_;rintro m w5⟨x5,rfl,af,al⟩)
   have aq:Q (Wb3_ (Z w.1) w w5):=Y<|r.trans af;have a7:Q (Sx w5 (Z w.1) 5 1 x5 (J (Wbg_ [109,97,99,104] [V]++(a.take<|k+1).flatMap Wcq_)) (Wab_<|Wbg_ [109,97,99,104] [V]++(a.take<|k+1).flatMap Wcq_)):=Y (by rw[HX.o];exact al);clear af al;go_wp2;exact⟨⟨k+1,O,gM,aq,a7⟩,SA⟩
  have W:Q (Sx wr (Z w.1) 5 1 u3 (J (Wcr_ V a)) (Wab_<|Wcr_ V a)):=Y (by have:=L_.o;rwa[aW (by have:=x.o;omega)]at this);go_wp2;go_ret;refine⟨_,R,HK.below,Wd0_ W.o (by simp[Wcr_,Wbg_]),?_⟩;rw[J_.o];exact W.o
end Go.Proofs.YtnggdhnpjfigjaaGreatDoor
