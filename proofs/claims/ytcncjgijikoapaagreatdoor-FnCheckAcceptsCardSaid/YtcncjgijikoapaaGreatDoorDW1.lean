import Derived.Test.YtcncjgijikoapaaGreatDoorDR4
import Derived.Test.YtcncjgijikoapaaGreatDoorTN1
import Derived.Test.YtcncjgijikoapaaGreatDoorSPx
import Derived.Test.YtcncjgijikoapaaGreatDoorMK1
namespace Go.Proofs.YtcncjgijikoapaaGreatDoor
set_option maxHeartbeats 8000000
set_option maxRecDepth 100000
open _root_ renaming Array.size->Z,List.length->J,Nat->N,Int->I,rfl->R,Option.some->S,Option.none->U,Bool.true->So,Bool.false->Sn,List.range->Rg,Decidable.decide->Jd
open Go renaming World.alloc->D,World.setCell->Se,IntKind.i64->S6,Obj.cells->Sc,Ending.returned->Rt,undef->Su,Calls->Sk,results->JC,World.cell?->E,RowKit.Below->Sw,RowKit.intOf->JB
open Value renaming slice->X,int->Si,bool->Sb,agg->Sa,tuple->St
open Go.RowKit Go.Proofs.Tryz
variable{r:Bool}{t:I}{n m k B g c:N}{Z_:N->N×N×N}{w v u:Ub}{p:Uy}{h H_:Vu}{l:Wc}{x:Wi}
theorem VL{C:N}(a:N->N×N×N)(av:N->Vu)(s:cB)(hF:Q (xW w a k (Hl C m c) x h H_ av))(t:Q (m=J x))(d:1<=m)(u:m<=11)(l:k<=Z w.1)(p:Q (∀b,Z w.1<=b->a b=(0,0,0)))(o:Q (i9 w B g s))(j:g<=k)(f:n<=1000)(v:Q (RS x))(i:Q (pY x)):
 Sk prog 30 #[Sa #[H n,Hl C m c],Hn B] w λe y=>we (L5 n x s) (sE n x s) g w k B e y:=by
 have z:=kr s (n:=16) O;refine Pz a av s hF t d u l p o j f v i<|Y ?_;generalize (iw s 16).1=rk at*;by_cases q:11<=rk;·exact Q3 q O
 have r:rk=0\/rk=1\/rk=2\/rk=3\/rk=4\/rk=5\/rk=6\/rk=7\/rk=8\/rk=9\/rk=10:=O;obtain rfl|rfl|rfl|rfl|rfl|rfl|rfl|rfl|rfl|rfl|rfl:=r;·exact LH
 .exact Ll
 .exact Mg
 .exact WS
 .exact QF
 .exact OQ
 .exact LX
 .exact QY
 .exact Mk
 .exact LJ
 exact Ml
noncomputable def jt(s:cB):Fn :=
 if (iw s 30).1<3 then ⟨(Fz (iw s 30).2 Sn).1.1,(pK (Fz (iw s 30).2 Sn).1.1.toNat (Fz (iw s 30).2 Sn).1.2 (Fz (iw s 30).2 Sn).2).1⟩
 else if (iw s 30).1=3 then (Fz (iw s 30).2 So).1
 else if (iw s 30).1<7 then L5 (Fz (iw s 30).2 Sn).1.1.toNat (Fz (iw s 30).2 Sn).1.2 (Fz (iw s 30).2 Sn).2
 else (Fz (iw s 30).2 Sn).1
noncomputable def Rj(s:cB):cB :=
 if (iw s 30).1<3 then (pK (Fz (iw s 30).2 Sn).1.1.toNat (Fz (iw s 30).2 Sn).1.2 (Fz (iw s 30).2 Sn).2).2
 else if (iw s 30).1=3 then (Fz (iw s 30).2 So).2
 else if (iw s 30).1<7 then sE (Fz (iw s 30).2 Sn).1.1.toNat (Fz (iw s 30).2 Sn).1.2 (Fz (iw s 30).2 Sn).2
 else (Fz (iw s 30).2 Sn).2
structure Ad(w w':Ub)(sb B:N)(G_ n c:N)(lab:N->N×N×N)(pv iv:Vu)(av:N->Vu)(V:N)(xs:Wi)(s':cB):Prop where
 dr:i9 w' sb B s'
 gr:w.grownBy w' (S sb)
 fn:xW w' lab (Z w.1) (X (S ⟨G_,0,U⟩) n c) xs pv iv av
 fr:∀b,Z w'.1<=b->lab b=(0,0,0)
 len:n=J xs
 n1:1<=n
 n11:n<=11
 v:V<=1000
 sml:RS xs
 arg:pY xs
theorem Th(s:cB)(i:Q (i9 w n m s)):
 Sk prog 29 #[Hn n,Sb r] w λf h=>∃d y a c e b av,∃V:N,f=Rt (Sa #[H V,Hl y a c])/\(Fz s r).1.1=(V:I)/\Ad w h n m y a c d e b av V (Fz s r).1.2 (Fz s r).2:=by
 refine(Qs (Y O9) s i).mono ?_;rintro f h⟨d,y,a,c,e,b,av,rfl,j,o,p,q,t,u,v,⟨V,g,x⟩,k,l⟩;exact⟨d,y,a,c,e,b,av,V,by rw[g],g,j,o,p,q,t,u,v,x,k,l⟩
theorem Ad.spo{i:N}{av:N->Vu}{b:cB}(a:Ad w v n m i k c Z_ h H_ av B x b):S8 w v (Z w.1) n (S ⟨i,0,U⟩) x m b :=
 ⟨a.1,a.3.at_,Ae a.3.1 a.3.3,a.2.1,a.2.2,a.2.3,a.2.4,λq d f=>a.2.5 q d λe=>f<|by injection e⟩
theorem S8.after{s:cB}(g:w.grownBy v (S m))(c:n<=Z w.1)(h:S8 v u n m p x k s):S8 w u n m p x k s :=
 ⟨h.1,h.2,h.3,G h.4 g.1,G h.5 g.2,G h.6 g.3,aJ g.4 h.7,λq b a=>G (h.8 q b a) (g.5 q O λe=>a<|by injection e)⟩
theorem S8.fin{y:cB}{u0 u1:Uj}(H_:m<Z w.1)(c:(D w (Sc #[Si S6 0,X U 0 0] 25)).grownBy v (S m))(j:Z w.1<n)(z:k<=Z w.1)(h:S8 v u n m p x k y):Bx u (Z w.1) #[Si S6 0,X U 0 0] 25/\S8 w (Se (Se u ⟨Z w.1,0,U⟩ u0) ⟨Z w.1,1,U⟩ u1) (Z w.1) m p x k y:=by
 have K:Bx u (Z w.1) #[H 0,Hq] 25:=((Bx.new w _ _).grown c λe=>by injection e;omega).keep (h.8 _ j O);have a:=((dC (Z w.1) u).setCell (p:=A (Z w.1) 0) aA u0).setCell (p:=A (Z w.1) 1) aA u1;have i:YA n (Z u.1) u (Se (Se u (A (Z w.1) 0) u0) (A (Z w.1) 1) u1):=λq d _=>by have s:q≠Z w.1:=O;exact G (cY s) (cY s)
 have C:Z w.1<=Z v.1:=aJ sP c.4;refine⟨K,h.1.keep<|a.mono z,(h.2.keepS i).mono (dU j) a.4,(λt r b o L F M e B=>by obtain⟨P,T,f,l,_⟩:=h.2 t r;rw[e]at f;cases f;exact h.3 t r b o L F M e<|G (Xc<|i b l.1 l.2).symm B),G a.1<|G h.4 c.1,G a.2<|G h.5 c.2,G a.3<|G h.6 c.3,aJ C<|aJ h.7 a.4,λq d g=>?_⟩
 exact G (a.5 q d) (G (h.8 q O g) (G (c.5 q SB λe=>g<|by injection e) (gF _ _ _ d)))
theorem zE.spo{s:cB}{b:N}{av:N->Vu}(a:zE w v Z_ n m k s b B c x h H_ av):S8 w v n m (S ⟨b,0,U⟩) x k s:=⟨a.2,a.1.at_,Ae a.1.1 a.1.3,a.3,a.4,a.5,a.6,a.7⟩
def vn(F:Fn)(Z_:cB)(B:N)(w:Ub)(a:N)(e:Ending)(b:Ub):Prop:=we F Z_ B w (Z w.1) a e b/\J F.2+Xx F.2<=1048576/\J F.2<=12
theorem vn.fin{Z_:cB}(F:Fn)(g:Q (n<Z w.1))(a:Q ((D w (Sc #[Si S6 0,X U 0 0] 25)).grownBy v (S n)))(b:Q (Z w.1<Z v.1))(d:Q (k<=Z w.1))(h:S8 v u (Z v.1) n p F.2 k Z_)(j:F.1=t)(f:m=J F.2)(i:J F.2+Xx F.2<=1048576)(e:J F.2<=12):Q (∀u0 u1,Bx u (Z w.1) #[Si S6 0,X U 0 0] 25/\vn F Z_ k w n (Rt (Sa #[Si S6 t,X p m c])) (Se (Se u ⟨Z w.1,0,U⟩ u0) ⟨Z w.1,1,U⟩ u1)) :=
 Y λ_ _=>have H_:=S8.fin g.o a.o b.o d.o h;⟨H_.1,⟨_,m,_,by rw[j],f,H_.2⟩,i,e⟩
theorem MO(s:cB)(l:Q (i9 w n k s)):
 Sk prog 10 #[Hn n] w λj T=>vn (jt s) (Rj s) k w n j T:=by
 have b:=Y<|jt.eq_1 s;have d:=Y<|Rj.eq_1 s;have o:Q (k<=Z w.1):=Y l.4;have x:Q (n<Z w.1):=Y<|oP l.3 l.4;have K:=Y<|l.box (Sc #[H 0,Hq] 25)
 go_in
 go_wp2_with fail
 refine YU (ki s 30 _ K O O) λL⟨v,y⟩=>?_;have M:=kr s (n:=30) O;obtain⟨r,s1,P⟩:∃W P_,iw s 30=(W,P_):=⟨_,_,R⟩;rw[P]at v b d M |-;dsimp only at v b d M |-;have J_:=Y v;have t:=Y y;have q:Q (Z w.1<Z L.1):=Y<|aX sP y.4;clear v y P l K;by_cases B:r<3;rw[aU B]at b d;rotate_left;rw[aM B]at b d;by_cases i:r=3;have M_:(r==3)=So:=by simpa using i
 rw[aU i]at b d;clear i;rotate_left;have M_:(r==3)=Sn:=by simpa using i
 rw[aM i]at b d;clear i;by_cases C:r<7;rw[aU C]at b d;rotate_left;rw[aM C]at b d
 all_goals
  go_wp2_with fail
  refine(Th s1 J_).mono ?_;rintro j X_⟨H_,G_,N_,c,W_,U_,av,V,rfl,F,z⟩;have a:=Y z;have u:=Y F;have e:Q (N_<=12/\k<=Z L.1):=Y ⟨Nat.le_succ_of_le z.7,aJ o.o<|dU q.o⟩;clear z F
 have f:=vn.fin (c:=c) (Fz s1 Sn).1 x t q o a.spo u.o a.5 (yO (a.5▸e.1) (zc (zm _ _) a.9)) (a.5▸e.1);rotate_left;rw[u.o,dM]at b d;have h:=Y<|LM (V:=V) (s:=(Fz s1 Sn).2) (zm s1 Sn) a.9
 focus go_wp2_with fail
 refine YU (LE H_ av (Fz s1 Sn).2 (Y a.3) (Y a.5) a.6 a.7 a.2.4 (Y a.4) (Y a.1) e.2 a.v (Y a.9) (Y a.10)) λR_ p=>?_;have g:=G a.5 h.1.symm;have f:=vn.fin (c:=c) ⟨(V:I),(pK V (Fz s1 Sn).1.2 (Fz s1 Sn).2).1⟩ x t q o (S8.after a.2 aA p.spo) R g (yO (g▸e.1) h.2) (g▸e.1);clear p g;rotate_left;have f:=vn.fin (c:=c) (Fz s1 So).1 x t q o a.spo u.o a.5 (yO (a.5▸e.1) (zc (zm _ _) a.9)) (a.5▸e.1);rotate_left;rw[u.o,dM]at b d;have h:=Y<|U6 (V:=V) (s:=(Fz s1 Sn).2) (zm s1 Sn) a.9
 focus go_wp2_with fail
 refine(VL H_ av (Fz s1 Sn).2 (Y a.3) (Y a.5) a.6 a.7 a.2.4 (Y a.4) (Y a.1) e.2 a.v (Y a.9) (Y a.10)).mono ?_;rintro j R_⟨S_,m,K_,rfl,g,p⟩;have f:=vn.fin (c:=K_) (L5 V (Fz s1 Sn).1.2 (Fz s1 Sn).2) x t q o (S8.after a.2 aA p) R g (yO (aJ h.1 (a.5▸e.1)) h.2) (aJ h.1 (a.5▸e.1));clear p g
 all_goals
  have L_:=(f.o Su Su).1.c 0;have f1:=(f.o Su Su).1.c 1;have T_:=Bx.thaw (f.o Su Su).1;go_wp2;rw[b.o,d.o];refine cC ?_ R (f.o _ _).2;simp[JC,results10,go_sem,L_,f1]
theorem HK.ints{b:Ym}(h:HK w n m k b):Xf w 0 (Z w.1) (S ⟨n,0,U⟩) ((Rg m).map b):=λi a=>by simp only[bK,gI]at a;refine⟨n,0,R,⟨aN,h.lt⟩,?_⟩;simp only[cM,dW,aV];exact h.cell a
theorem A4(h:XJ ⟨t,x⟩=So):∃n:N,t=(n:I):=by simp only[XJ,bY]at h;obtain⟨⟨⟨⟨a,_⟩,_⟩,_⟩,_⟩:=h;simp only[Y6,bY,bD]at a;exact bX a.1.1.1.1
noncomputable def oI(V:N)(a:Wi):Ym:=Kq (λ_=>-1) (Ko a V<|XT ((Rg (J a)).map (L0<|(Rg (J a)).map (Zq (X8 a) (J a)))) (J a) 0)
theorem LY(h:Ft (n:I) x=0):NE (oI n x) n=(NW (Zw x n (J x)):I)/\Pm (n:I) x ((Rg n).map (oI n x)) (NE (oI n x) n):=by
 obtain⟨d,f⟩:=TX h;have e:=XH d;have q:¬∃s,N4 x s:=λo=>by rw[qg d f o]at h;omega
 obtain⟨i,k,m⟩:=EM d f q e.1.model;have j:NE (oI n x) n=(NW (Zw x n (J x)):I):=i;have v:=@B7 x n;have t:=e.2;refine⟨j,h,O,O,sP,λc p=>?_,λl b=>?_⟩
 .obtain⟨u,a,rfl⟩:=aY.1 p;have a:=bE.1 a;have:=qZ (C:=oI n x) n a;exact⟨m u a,O⟩
 have g:l.map (US<|(Rg n).map (oI n x))=l.map λu=>(oI n x u).toNat:=by apply gH;intro u a;have r:u<n:=JF b a;unfold US NG;rw[bF,dX,iQ r];rfl
 rw[dM]at b;rw[g];exact k l b
theorem Lu{tg:Yr}(f:∀x,Re tg x->x<n)(h:YX tg n l):l=(Rg n).map (L0<|(Rg n).map (Zq tg n)):=by
 refine mG (by rw[h.1];simp) λb c g=>?_;have d:b<n:=by rw[<-h.1];exact c
 have e1:l.getD b 0=l[b]:=by rw[bF,aC c];rfl
 simp only[cM,dW];rw[<-e1];obtain⟨a,ha,e⟩|⟨h3,e⟩:=h.2 b d;·rw[e,BP f ha]
 rw[e,BJ d h3]
noncomputable def kR(F:Fn):Wc:=if Ft F.1 F.2=0 then (Rg F.1.toNat).map (oI F.1.toNat F.2)else []
noncomputable def pM(F:Fn):I:=if Ft F.1 F.2=0 then NE (oI F.1.toNat F.2) F.1.toNat else 0
noncomputable def Ku(F:Fn)(s:cB):I:=pM F+(iw s 3).1
def sh(s:cB):I:=(iw (iw s 3).2 4).1
def RM(s:cB):cB:=(iw (iw s 3).2 4).2
noncomputable def RY(F:Fn)(s:cB):Wc×cB :=
 if sh s=1/\0<Ku F s then ((kR F).map λc=>(c+(iw (RM s) (Ku F s)).1)%(Ku F s),(iw (RM s) (Ku F s)).2)
 else if sh s=2 then ((kR F).map λc=>Ku F s-1-c,RM s)
 else if sh s=3/\0<J (kR F) then
  (if 0<(iw (iw (iw (RM s) (J (kR F))).2 (Ku F s)).2 3).1/\MD F.1 F.2 ((kR F).set (iw (RM s) (J (kR F))).1.toNat (iw (iw (RM s) (J (kR F))).2 (Ku F s)).1) (Ku F s)=Sn
   then kR F else (kR F).set (iw (RM s) (J (kR F))).1.toNat (iw (iw (RM s) (J (kR F))).2 (Ku F s)).1,
   (iw (iw (iw (RM s) (J (kR F))).2 (Ku F s)).2 3).2)
 else (kR F,RM s)
noncomputable def r9(s:cB):cB:=(RY (jt s) (Rj s)).2
noncomputable def vQ(s:cB):Wc:=if (iw (r9 s) 16).1=1/\0<J (RY (jt s) (Rj s)).1 then (RY (jt s) (Rj s)).1.set 0 ((RY (jt s) (Rj s)).1.getD (J (RY (jt s) (Rj s)).1-1) 0)else (RY (jt s) (Rj s)).1
noncomputable def zK(s:cB):I:=if (iw (r9 s) 16).1=0 then Ku (jt s) (Rj s)-1 else if (iw (r9 s) 16).1=2 then 64+(iw (iw (r9 s) 16).2 2).1 else Ku (jt s) (Rj s)
theorem BK(F:Fn):J (kR F)<=2000/\(0<=pM F/\pM F<=2000)/\∀c∈kR F,0<=c/\c<pM F:=by
 unfold kR pM;by_cases h:Ft F.1 F.2=0
 .rw[aU h,aU h];obtain⟨V,e⟩:=A4 (TX h).1;rw[e]at h;obtain⟨b,d⟩:=LY h;have g:=(XH (TX h).1).2;have i:=@B7 F.2 V;rw[e,dM,b];rw[b]at d;obtain⟨_,_,_,_,f,_⟩:=d;exact⟨by simpa using g,O,λc a=>f c a⟩
 rw[aM h,aM h];exact⟨aN,O,λc a=>by cases a⟩
section
def RN(w:Ub)(base:N)(v:Uj)(l:Wc):Prop:=(v=X U 0 0/\l=[])\/∃g C D_,v=X (S ⟨g,0,U⟩) (J l) C/\base<=g/\HK w g (J l) C D_/\l=(Rg (J l)).map D_
variable {w w': Ub} {base: N} {v: Uj} {l: Wc}
theorem RN.keep(h:RN w base v l)(k:∀q,base<=q->q<Z w.1->w'.1[q]?=w.1[q]?):RN w' base v l:=by
 obtain h|⟨g,C,d,e,a,b,c⟩:=h;·exact bC h
 exact aZ ⟨g,C,d,e,a,b.of_block<|k g a b.lt,c⟩
theorem RN.form(h:RN w base v l):∃a C,v=X a (J l) C:=by
 obtain⟨h,e⟩|⟨g,C,b,e,_⟩:=h;·exact⟨U,0,by rw[h,e];rfl⟩
 exact⟨_,C,e⟩
theorem RN.at_(h:RN w base v l){i:N}(a:i<J l):∃g C,v=X (S ⟨g,0,U⟩) (J l) C/\(base<=g/\g<Z w.1)/\E w ⟨g,i,U⟩=S (Si S6 l[i])/\(∀q,w.frozen? ⟨g,q,U⟩=Sn)/\∀x,RN (Se w ⟨g,i,U⟩ (Si S6 x)) base v (l.set i x):=by
 obtain⟨_,e⟩|⟨g,C,f,e,hg,ha,hl⟩:=h;·rw[e]at a;cases a
 refine⟨g,C,e,⟨hg,ha.lt⟩,?_,ha.frozen,λx=>aZ ⟨g,C,λj=>if j=i then x else f j,by rw[bL];exact e,hg,by rw[bL];exact ha.set i x a,?_⟩⟩
 .have e2:l[i]=f i:=by
   have:=List.getElem_of_eq hl a;rw[this];simp
  rw[e2];exact ha.cell a
 refine mG sP λj b d=>?_;have c:j<J l:=by simpa using b
 have e2:l[j]=f j:=by have:=List.getElem_of_eq hl c;rw[this];simp
 rw[List.getElem_set];simp only[cM,dW];by_cases e3:i=j;·subst e3;simp
 rw[aM e3,aM λe4=>e3 e4.symm,e2]
theorem RN.ints(h:RN w base v l):∃a C,v=X a (J l) C/\Xf w 0 (Z w.1) a l:=by
 obtain⟨h,e⟩|⟨g,C,c,e,hg,ha,hl⟩:=h;·exact⟨U,0,by rw[h,e];rfl,λi b=>by rw[e]at b;cases b⟩
 exact⟨_,C,e,by have:=ha.ints;rw[<-hl]at this;exact this⟩
theorem Sr{F:Fn}{h:Uy}{n:N}(c:N){L B:N}{w:Ub}(ha:Q (Xp w L B h F.2))(e:Q (n=J F.2))(o:Q (J F.2+Xx F.2<=1048576))(i:B<=Z w.1):
 Sk prog 31 #[Sa #[H F.1,X h n c]] w λf w'=>∃v u,f=Rt (Sa #[H u,v,H (pM F)])/\Sw (Z w.1) w w'/\RN w' (Z w.1) v (kR F):=by
 obtain⟨V,a⟩:=F;dsimp only at*;by_cases d:Ft V a=0
 .obtain⟨b,rfl⟩:=A4 (TX d).1
  have m:=XH (TX d).1;refine(Lj ha e o i (Y d) (Y (TX d).1) (Y m)).mono ?_;rintro f w'⟨P,r,cap,j,rfl,g,t,k⟩;have q:P=(Rg (J a)).map (L0<|(Rg (J a)).map (Zq (X8 a) (J a))):=by rw[e.o]at j;exact Lu (λx s=>m.1.re x s) j
  have p:Kq (λ_=>-1) (Ko a b<|XT P n 0)=oI b a:=by unfold oI;rw[q,e.o]
  rw[p]at k |-;have e1:kR ⟨(b:I),a⟩=(Rg b).map (oI b a):=by unfold kR;dsimp only;rw[aU d,dM]
  have e2:pM ⟨(b:I),a⟩=NE (oI b a) b:=by unfold pM;dsimp only;rw[aU d,dM]
  have e3:J (kR ⟨(b:I),a⟩)=b:=by rw[e1];simp
  exact⟨_,_,by rw[e2],g,aZ ⟨r,cap,oI b a,by rw[e3],t,by rw[e3];exact k,by rw[e3];exact e1⟩⟩
 refine YU (LT ha e o i d) λw' g=>?_;have e1:kR ⟨V,a⟩=[]:=by unfold kR;dsimp only;rw[aM d]
 have e2:pM ⟨V,a⟩=0:=by unfold pM;dsimp only;rw[aM d]
 exact⟨_,_,by rw[e2],g,bC ⟨R,e1⟩⟩
end
theorem Mu{F:Fn}(c:N)(s:cB)(w:Ub)(ha:Q (Xp w B g p F.2))(hx:Q (n=J F.2))(hs:Q (J F.2+Xx F.2<=1048576))(cz:g<=Z w.1)(ek:m<B)(hL:B<=Z w.1)(hd:Q (i9 w m k s)):
 Sk prog 11 #[Sa #[H F.1,X p n c],Hn m] w λj w'=>∃bd,j=Rt (St #[bd,H (Ku F s)])/\i9 w' m k (RY F s).2/\w.grownBy w' (S m)/\RN w' (Z w.1+1) bd (RY F s).1:=by
 obtain⟨dx,du,d1⟩:=BK F;have a6:=Y d1;have a5:=Y λac nc r cs b Lc Bc bq f d h3 h4 h5 h6=>BC F.1 p n c F.2 B g ac nc r cs Lc Bc b bq f hx hs d h3 h4 h5 h6;have df:=kr s (n:=3) O;have bc:=kr (iw s 3).2 (n:=4) O;have HK:Q (Ku F s=pM F+(iw s 3).1):=Y R;have HH:Q (sh s=(iw (iw s 3).2 4).1):=Y R;have al:Q (RM s=(iw (iw s 3).2 4).2):=Y R;have a:Q (RY F s=(if sh s=1/\0<Ku F s then ((kR F).map λc=>(c+(iw (RM s) (Ku F s)).1)%(Ku F s),(iw (RM s) (Ku F s)).2)
 else if sh s=2 then ((kR F).map λc=>Ku F s-1-c,RM s)
 else if sh s=3/\0<J (kR F) then
  (if 0<(iw (iw (iw (RM s) (J (kR F))).2 (Ku F s)).2 3).1/\MD F.1 F.2 ((kR F).set (iw (RM s) (J (kR F))).1.toNat (iw (iw (RM s) (J (kR F))).2 (Ku F s)).1) (Ku F s)=Sn
   then kR F else (kR F).set (iw (RM s) (J (kR F))).1.toNat (iw (iw (RM s) (J (kR F))).2 (Ku F s)).1,
   (iw (iw (iw (RM s) (J (kR F))).2 (Ku F s)).2 3).2)
 else (kR F,RM s))):=Y R
 have cf:=Y λbq (hb:Sw (Z w.1) w bq)=>Sr c (Y<|ha.keep (hb.mono cz)) hx hs (oN hb.4);have el:m<Z w.1:=O;have dt:=hd.4
 go_in
 go_wp2_with fail
 refine(cf.o _<|Xb (dC (Z w.1) w) _).mono ?_;rintro j w1⟨bd,V,rfl,bt,c7⟩;have a7:=Xg (Xb (dC (Z w.1) w) (Sc #[H F.1,X p n c] 25)) bt;have a2:Q (RN w1 (Z w.1+1) bd (kR F)):=Y (by
  obtain v|⟨l,a0,D_,j,hg,v⟩:=c7;·exact bC v
  exact aZ ⟨l,a0,D_,j,by rw[aO]at hg;omega,v⟩)
 have be:=Y<|hd.keep (a7.mono dt);have b6:=Y<|ha.keep (a7.mono cz);have dk:=(Bx.new w #[H F.1,X p n c] 25).keep (bt.5 _ sP);have bm:=Y dk;have a1:=Y a7;clear c7 bt a7 dk cf hd;obtain⟨W,r,rfl⟩:=a2.form;obtain⟨e,Y_⟩:∃e,Q (e=J (kR F)):=⟨_,Y R⟩;simp only[<-Y_.o]at a2 a dx |-;generalize kR F=h at*;obtain⟨ct,bv⟩:∃ct,ct=pM F:=⟨_,R⟩;rw[<-bv]at HK du a6;simp only[<-bv];clear bv;obtain⟨x,s1,t⟩:∃x M,iw s 3=(x,M):=⟨_,_,R⟩;obtain⟨Z_,s2,b5⟩:∃x M,iw s1 4=(x,M):=⟨_,_,R⟩;have cr:=Y t;have cu:=Y b5;rw[t]at HK HH al df bc;dsimp only at HK HH al df bc;rw[b5]at HH al bc;dsimp only at HH al bc;rw[al.o,HH.o]at a;clear t b5 HH al;have dd:0<=Ku F s/\Ku F s<=2002:=oN HK.o;obtain⟨b,P_⟩:∃b,Q (b=Ku F s):=⟨_,Y R⟩;rw[<-P_.o]at HK a dd;go_wp2_with fail
 have V_:=Y (Bx.new w1 #[H V,X W e r,H ct] 79);have ao:=Xb (dC (Z w1.1) w1) (Sc #[H V,X W e r,H ct] 79);have cg:=Y (a2.keep λq _ v=>ao.5 q v);have cj:=Y<|be.keep (ao.mono be.4);have b7:=Y<|b6.keep (ao.mono<|oN a1.4);have bn:=Y<|bm.keep (ao.5 _ bm.lt);have K_:=Y<|Xg a1.o ao;have c6:m≠Z w1.1:=oN a1.4;clear a2 be b6 bm a1 ao;generalize D w1 _=w2 at*;generalize Z w1.1=cb at*;have c1:=Bx.c V_.o 1;have c2:=Bx.c V_.o 2;have bl:=Y<|ki s 3 w2.drew (Y cj.drew) O O;rw[cr.o]at bl;have en:S6.wrap (ct+x)=b:=by rw[dF,HK.o];omega
 refine Y7 (λw'=>E w' (A cb 1)=S (X W e r)/\E w' (A cb 2)=S (H ct)) λig=>?_;refine Xn 0 ?_;refine Xn 1 ?_;refine Xn 2 ?_;refine Xs 3 λea hK=>?_;go_simp
 go_at_call 12
 with_reducible refine bl.o.mono ?_
 rintro j w3⟨rfl,c8,R_⟩;have R_:w2.grownBy w3 (S m):=⟨R_.1,R_.2,R_.3,R_.4,R_.5⟩;have a9:=R_.5 cb V_.lt λj=>c6 (gQ j).symm;refine hK _ _ ⟨G (Xc a9) c1,G (Xc a9) c2⟩ λig=>?_;have bf:=Y c8;have bg:=Y R_;have cx:=G (Xc (o:=1) a9) c1;clear hK c8 R_ a9 c1 c2;refine Xn 4 ?_;refine Xn 5 ?_;refine Yq ?_;clear ig;dsimp only at bf;go_wp2_with fail
 refine(ki s1 4 w3 bf O O).mono ?_;rw[cu.o];rintro j P⟨rfl,c9,bx⟩;have N_:=Y c9;have S_:w2.grownBy P (S m):=bg.trans bx;have ds:=Y S_;have dl:=S_.4;have o:∀q,q<Z w2.1->q≠m->P.1[q]?=w2.1[q]?:=λq f d=>S_.5 q f λj=>d<|gQ j;have c1:=G (Xc (o:=1) (bx.5 cb (oP V_.lt bg.4) λj=>c6 (gQ j).symm)) cx;have M_:=Y (cg.keep (w':=P) λq f d=>o q d O);have aq:Q (Xp P B g p F.2):=Y (b7.keepS λq f d=>o q (oN K_.4) O);have am:=Y<|bn.keep (o _ bn.lt O);have O_:Q (w.grownBy P<|S m):=Y ⟨G S_.1 K_.1,G S_.2 K_.2,G S_.3 K_.3,aJ K_.4 S_.4,λq f d=>G (S_.5 q (aX f K_.4) d) (K_.5 q f)⟩;have eb:Z w.1<=Z P.1:=aJ K_.4 dl;clear c9 bx S_ o bf bg cx bl cg cj b7 bn K_ V_ cr cu ds dl;have eh:0<=b:=dd.1;by_cases f:Z_=1/\0<b
 .rw[aU f]at a;obtain⟨rfl,dw⟩:=f;have e1:((1:I)==1)=So:=vY;have e2:((1:I)==2)=Sn:=vY;have e3:((1:I)==3)=Sn:=vY;have dh:=kr s2 (n:=b) O;dsimp only;go_wp2_with fail
  refine YU (ki s2 b P N_ O O) λT⟨ab,af⟩=>?_;have aa:=Y ab;have cn:Q (w.grownBy T<|S m):=Y<|O_.trans af;have aj:=Y (M_.keep (w':=T) λq f d=>af.5 q d λj=>by have:=gQ j;omega);clear ab af M_ aq am O_ N_ c1 a5;obtain⟨tn,s3,t⟩:∃x M,iw s2 b=(x,M):=⟨_,_,R⟩;rw[t]at aa dh a |-;dsimp only at aa dh a |-;clear t;go_wp2;generalize ad:h.map (λc=>(c+tn)%b)=lf at*;have az:J lf=J h:=by rw[<-ad,bK]
  have bk:Q (∀i (v:i<J h) (h':i<J lf),lf[i]=(h[i]+tn)%b):=Y (λi v h'=>by subst ad;rw[cM]);clear ad;have ar:=Y az;clear az;generalize T=wo at*
  go_loopw [11] (λV wr=>∃i:N,i<=e/\V=H i/\Q (RN wr (Z w.1+1) (X W e r) (lf.take i++h.drop i))/\Q (i9 wr m k s3)/\Q (w.grownBy wr<|S m)) λV _=>e-(JB V).toNat
  .exact⟨0,aN,R,aj,aa,cn⟩
  clear aj aa cn;obtain⟨i,hi,rfl,L_,HD,HG⟩:=hrel;by_cases dy:i<e
  .have z:i<J h:=oN Y_.o;have au:i<J lf:=oN ar.o;have b3:i<J (lf.take i++h.drop i):=by rw[aQ,dH,mF];omega
   obtain⟨l,a0,u,da,Q_,ap,C⟩:=L_.at_ b3;have hX:(lf.take i++h.drop i)[i]=h[i]:=by rw[fN<|by rw[dH];omega];simp only[dH,List.getElem_drop];congr 1;omega
   rw[hX]at Q_;have y:=C lf[i];rw[zU au z,bk.o i z au]at y;have U_:=Y y;obtain⟨x0,x1⟩:=a6.o _<|aH z;simp only[Value.slice.injEq]at u;obtain⟨rfl,-,-⟩:=u;clear C y hX;generalize h[i]=K at*;have dv:¬b=0:=O;have t0:=mR (K+tn) dv;have t1:=lM (K+tn) dw;have d2:S6.wrap (K+tn)=K+tn:=by rw[dF];omega
   have d3:S6.wrap ((K+tn)%b)=(K+tn)%b:=by rw[dF];omega
   have dc:(i:I)<(e:I):=O;have em:l≠m:=O;go_wp2;exact⟨⟨i+1,O,gM,U_,Y (HD.keep<|(dC k wr).setCell (show k<=l by omega) _),Y<|Rv HG.o O⟩,SA⟩
  have HE:Q (lf.take i++h.drop i=lf):=Y (by rw[aW<|oP ar.o Y_.o,List.drop_of_length_le<|oN Y_.o,fF]);have L_:=Y (HE.o▸L_.o);go_wp2;exact YL (v:=St #[X W e r,H b]) ⟨_,by rw[P_.o],by rw[a.o];exact HD.o,HG.o,by rw[a.o];exact L_.o⟩
 rw[aM f]at a;by_cases d:Z_=2
 .rw[aU d]at a;subst d;have e1:((2:I)==1)=Sn:=vY;have e2:((2:I)==2)=So:=vY;have e3:((2:I)==3)=Sn:=vY;clear aq am c1 a5 f;dsimp only;go_wp2;generalize ad:h.map (λc=>b-1-c)=lf at*;have az:J lf=J h:=by rw[<-ad,bK]
  have bk:Q (∀i (v:i<J h) (h':i<J lf),lf[i]=b-1-h[i]):=Y (λi v h'=>by subst ad;rw[cM]);clear ad;have ar:=Y az;clear az;generalize P=wo at*
  go_loopw [12] (λV wr=>∃i:N,i<=e/\V=H i/\Q (RN wr (Z w.1+1) (X W e r) (lf.take i++h.drop i))/\Q (i9 wr m k s2)/\Q (w.grownBy wr<|S m)) λV _=>e-(JB V).toNat
  .exact⟨0,aN,R,M_,N_,O_⟩
  clear M_ N_ O_;obtain⟨i,hi,rfl,L_,HD,HG⟩:=hrel;by_cases dy:i<e
  .have z:i<J h:=oN Y_.o;have au:i<J lf:=oN ar.o;have b3:i<J (lf.take i++h.drop i):=by rw[aQ,dH,mF];omega
   obtain⟨l,a0,u,da,Q_,ap,C⟩:=L_.at_ b3;have hX:(lf.take i++h.drop i)[i]=h[i]:=by rw[fN<|by rw[dH];omega];simp only[dH,List.getElem_drop];congr 1;omega
   rw[hX]at Q_;have y:=C lf[i];rw[zU au z,bk.o i z au]at y;have U_:=Y y;obtain⟨x0,x1⟩:=a6.o _<|aH z;simp only[Value.slice.injEq]at u;obtain⟨rfl,-,-⟩:=u;clear C y hX;generalize h[i]=K at*;have d2:S6.wrap (b-1)=b-1:=by rw[dF];omega
   have d3:S6.wrap (b-1-K)=b-1-K:=by rw[dF];omega
   have dc:(i:I)<(e:I):=O;go_wp2;exact⟨⟨i+1,O,gM,U_,Y (HD.keep<|(dC k wr).setCell (show k<=l by omega) _),Y<|Rv HG.o O⟩,SA⟩
  have HE:Q (lf.take i++h.drop i=lf):=Y (by rw[aW<|oP ar.o Y_.o,List.drop_of_length_le<|oN Y_.o,fF]);have L_:=Y (HE.o▸L_.o);go_wp2;exact YL (v:=St #[X W e r,H b]) ⟨_,by rw[P_.o],by rw[a.o];exact HD.o,HG.o,by rw[a.o];exact L_.o⟩
 rw[aM d]at a;have e2:(Z_==2)=Sn:=by simpa using d
 by_cases h3:Z_=3/\0<e
 .rw[aU h3]at a;obtain⟨rfl,hl⟩:=h3;have e1:((3:I)==1)=Sn:=vY;have e3:((3:I)==3)=So:=vY;have ej:(e:I) > 0:=O;have b4:=kr s2 (n:=(e:I)) O;dsimp only;go_wp2_with fail
  refine YU (ki s2 (e:I) P N_ O O) λT⟨ab,af⟩=>?_;obtain⟨ii,s3,t⟩:∃x M,iw s2 (e:I)=(x,M):=⟨_,_,R⟩;rw[t]at ab b4 a |-;dsimp only at ab b4 a |-;clear t;obtain⟨i,rfl⟩:=bX b4.1;rw[dM]at a;have o:∀q,q<Z P.1->q≠m->T.1[q]?=P.1[q]?:=λq f d=>af.5 q f λj=>d<|gQ j;have aj:=Y (M_.keep (w':=T) λq f d=>o q d O);have b8:Q (Xp T B g p F.2):=Y (aq.keepS λq f d=>o q O O);have bo:=Y<|am.keep (o _ am.lt O);have bh:Q (w.grownBy T<|S m):=Y<|O_.trans af;have ec:=bh.4;have aa:=Y ab;clear ab af o M_ aq am O_ N_;have z:i<J h:=oN Y_.o;obtain⟨l,a0,u,da,Q_,ap,_⟩:=aj.at_ z;simp only[Value.slice.injEq]at u;obtain⟨rfl,-,-⟩:=u;obtain⟨x0,x1⟩:=a6.o _<|aH z;obtain⟨K,br⟩:∃K,Q (K=h[i]):=⟨_,Y R⟩;rw[<-br.o]at Q_ x0 x1;have dc:(i:I)<(e:I):=O;go_wp2_with fail
  refine YU (ki s3 b T aa O O) λL⟨ba,b0⟩=>?_;obtain⟨nw,s4,t⟩:∃x M,iw s3 b=(x,M):=⟨_,_,R⟩;rw[t]at ba a |-;dsimp only at ba a |-;clear t Q_ ap;have o:∀q,q<Z T.1->q≠m->L.1[q]?=T.1[q]?:=λq f d=>b0.5 q f λj=>d<|gQ j;have ch:=Y (aj.keep (w':=L) λq f d=>o q d O);have cd:Q (Xp L B g p F.2):=Y (b8.keepS λq f d=>o q O O);have V_:=Y<|bo.keep (o _ bo.lt O);have bi:Q (w.grownBy L<|S m):=Y<|bh.trans b0;have ed:=bi.4;have ck:=Y ba;clear ba b0 o aj b8 bo bh aa;obtain⟨g',C',u,ef,Q_,ap,C⟩:=ch.at_ z;simp only[Value.slice.injEq,Option.some.injEq,Addr.mk.injEq]at u;obtain⟨⟨rfl,-,-⟩,-,-⟩:=u;have U_:=Y<|C nw;clear C;have ce:Q (Xp (Se L (A l i) (H nw)) B g p F.2):=Y (cd.keepS λq f d=>cY<|show q≠l by omega);have bp:=Y (V_.keep<|Below.heap_setCell L (A l i) (H nw) _ (show Z w.1≠l by omega));have cq:Q (w.grownBy (Se L (A l i) (H nw)) (S m)):=Y<|Rv bi.o O;have cl:Q (i9 (Se L (A l i) (H nw)) m k s4):=Y (ck.keep<|(dC k L).setCell (show k<=l by omega) _);have eo:Z L.1<=Z (Se L (A l i) (H nw)).1:=by rw[Xd];exact aA
  clear ch cd V_ bi ck;go_wp2_with fail
  generalize Se L _ _=w7 at*;refine YU (ki s4 3 w7 cl O O) λw8⟨bb,b1⟩=>?_;obtain⟨qn,s5,t⟩:∃x M,iw s4 3=(x,M):=⟨_,_,R⟩;rw[t]at bb a |-;dsimp only at bb a |-;clear t Q_ ap;have o:∀q,q<Z w7.1->q≠m->w8.1[q]?=w7.1[q]?:=λq f d=>b1.5 q f λj=>d<|gQ j;have a3:=Y (U_.keep (w':=w8) λq f d=>o q d O);have dn:Q (Xp w8 B g p F.2):=Y (ce.keepS λq f d=>o q O O);have cw:=Y<|bp.keep (o _ bp.lt O);have T_:Q (w.grownBy w8<|S m):=Y<|cq.trans b1;have ee:=T_.4;have a4:=Y bb;clear bb b1 o U_ ce bp cq cl;by_cases hq:0<qn
  .have d0:qn > 0:=hq;obtain⟨a8,C8,di,db⟩:=a3.ints;simp only[Value.slice.injEq]at di;obtain⟨rfl,dj,-⟩:=di;have d4:=Bx.c cw.o 0;have d5:=Bx.c cw.o 1;have cv:=Y<|a5.o (S ⟨l,0,U⟩) e r (h.set i nw) b 0 (Z w8.1) w8 dn O (Y db) (Y dj) aA O;clear db dj;go_wp2_with fail
   with_reducible refine cv.o.mono ?_
   rintro j w9⟨rfl,W_⟩;have ci:=Y (a3.keep (w':=w9) λq _ v=>W_.5 q v);have cm:=Y<|a4.keep (W_.mono a4.4);have co:Q (w.grownBy w9<|S m):=Y ⟨G W_.1 T_.1,G W_.2 T_.2,G W_.3 T_.3,aJ T_.4 W_.4,λq f d=>G (W_.5 q O) (T_.5 q f d)⟩;clear W_ cv a3 a4 T_ d4 d5;cases hpb:MD F.1 F.2 (h.set i nw) b with
   |true=>
    rw[aM<|by rw[hpb];simp]at a;dsimp only;go_wp2;exact YL (v:=St #[Hl l e r,H b]) ⟨_,by rw[P_.o],by rw[a.o];exact cm.o,co.o,by rw[a.o];exact ci.o⟩
   |false=>
    rw[aU ⟨hq,hpb⟩]at a;obtain⟨g',C',u,eg,Q_,ap,C⟩:=ci.at_ (i:=i) (by rw[bL];exact z);simp only[Value.slice.injEq,Option.some.injEq,Addr.mk.injEq]at u;obtain⟨⟨rfl,-,-⟩,-,-⟩:=u;have y:=C K;rw[gE,br.o,fK]at y;rw[<-br.o]at y;have U_:=Y y;clear C y;dsimp only;go_wp2;exact YL (v:=St #[Hl l e r,H b]) ⟨_,by rw[P_.o],by rw[a.o];exact cm.keep ((dC k w9).setCell (show k<=l by omega) _),Rv co.o O,by rw[a.o];exact U_.o⟩
  have d0:¬qn > 0:=hq;rw[aM λv=>hq v.1]at a;go_wp2;exact YL (v:=St #[Hl l e r,H b]) ⟨_,by rw[P_.o],by rw[a.o];exact a4.o,T_.o,by rw[a.o];exact a3.o⟩
 rw[aM h3]at a;clear aq am c1 a5;by_cases q1:Z_=1
 .subst q1;have ei:¬b > 0:=O;have e1:((1:I)==1)=So:=vY;have e3:((1:I)==3)=Sn:=vY;dsimp only;go_wp2;exact YL (v:=St #[X W e r,H b]) ⟨_,by rw[P_.o],by rw[a.o];exact N_.o,O_.o,by rw[a.o];exact M_.o⟩
 have e1:(Z_==1)=Sn:=by simpa using q1
 by_cases q3:Z_=3
 .subst q3;have dz:e=0:=O;subst dz;have e3:((3:I)==3)=So:=vY;dsimp only;go_wp2;exact YL (v:=St #[X W 0 r,H b]) ⟨_,by rw[P_.o],by rw[a.o];exact N_.o,O_.o,by rw[a.o];exact M_.o⟩
 have e3:(Z_==3)=Sn:=by simpa using q3
 dsimp only;go_wp2;exact YL (v:=St #[X W e r,H b]) ⟨_,by rw[P_.o],by rw[a.o];exact N_.o,O_.o,by rw[a.o];exact M_.o⟩
section
theorem RN.keep'{w:Ub}{b a:N}{v:Uj}{l:Wc}(h:RN w b v l)(c:a<=b):RN w a v l:=by
 obtain h|⟨g,C,i,e,d,f⟩:=h;·exact bC h
 exact aZ ⟨g,C,i,e,aJ c d,f⟩
theorem FZ(F:Fn)(s:cB):J (RY F s).1<=2000:=by
 have h:=(BK F).1;unfold RY;by_cases a:sh s=1/\0<Ku F s
 .rw[aU a];simpa using h
 rw[aM a];by_cases b:sh s=2
 .rw[aU b];simpa using h
 rw[aM b];by_cases c:sh s=3/\0<J (kR F)
 .rw[aU c];dsimp only;split;·exact h
  simpa using h
 rw[aM c];exact h
structure Ey(s:cB)(w w':Ub)(fa:Uy)(fm:N)(v:Uj):Prop where
 len:fm=J (jt s).2
 low:Sw (Z w.1) w w'
 at_:Xp w' (Z w.1) (Z w'.1) fa (jt s).2
 cap:sK w' fa (jt s).2
 tot:J (jt s).2+Xx (jt s).2<=1048576
 le:J (jt s).2<=12
 col:RN w' (Z w.1) v (vQ s)
structure pW(F:Fn)(w wr:Ub)(L sb fb:N)(fa:Uy)(fm fc:N)(v:Uj)(l:Wc):Prop where
 low:Sw (Z w.1) w wr
 hL:Z w.1+2<=L
 lt:L<=Z wr.1
 at_:Xp wr L fb fa F.2
 cap:sK wr fa F.2
 bx:Bx wr (Z w.1) #[Si S6 0,X U 0 0] 25
 fx:Bx wr fb #[Si S6 F.1,X fa fm fc] 25
 hb:L<=fb
 col:RN wr (fb+1) v l
variable {F: Fn} {w wr w': Ub} {L sb fb fm fc: N} {fa: Uy} {v: Uj} {l: Wc}
theorem pW.call(h:pW F w wr L sb fb fa fm fc v l)(C:Z w.1<sb/\sb<L)(g:wr.grownBy w' (S sb)):pW F w w' L sb fb fa fm fc v l:=by have a:∀q,q<Z wr.1->q≠sb->w'.1[q]?=wr.1[q]?:=λq c d=>g.5 q c λe=>d<|gQ e;have c:=h.2;have d:=h.1.4;have m:=h.3;have n:=h.8;have y:=h.7.lt;refine⟨⟨G g.1 h.1.1,G g.2 h.1.2,G g.3 h.1.3,aJ d g.4,λq r=>G (a q O O) (h.1.5 q r)⟩,c,aJ m g.4,h.4.keepS λq k b=>a q O O,?_,h.6.keep<|a _ h.6.lt O,h.7.keep<|a _ h.7.lt O,n,h.9.keep λq k b=>a q b O⟩;intro j i b o s u t e p;obtain⟨x,B,f,z,_⟩:=h.4 j i;rw[e]at f;cases f;exact h.5 j i b o s u t e<|G (Xc<|a b O O).symm p
theorem pW.setC(h:pW F w wr L sb fb fa fm fc v l){k:Wc}{g i:N}{x:I}(C:fb+1<=g)(c:RN (Se wr ⟨g,i,U⟩ (Si S6 x)) (fb+1) v k):pW F w (Se wr ⟨g,i,U⟩ (Si S6 x)) L sb fb fa fm fc v k:=by have m:=h.2;have n:=h.8;have a:∀q,q≠g->(Se wr (A g i) (H x)).1[q]?=wr.1[q]?:=λq p=>cY p;refine⟨h.1.setCell (show Z w.1<=g by omega) _,m,by rw[Xd];exact h.3,h.4.keepS λq u b=>a q O,?_,h.6.keep<|a _ O,h.7.keep<|a _ O,n,c⟩;intro j f b o r t s e c;obtain⟨y,B,d,z,_⟩:=h.4 j f;rw[e]at d;cases d;exact h.5 j f b o r t s e<|G (Xc<|a b O).symm c
theorem pW.fin{u0 u1:Uj}{s:cB}(h:pW (jt s) w wr L sb fb fa fm fc v (vQ s))(n:fm=J (jt s).2)(p:J (jt s).2+Xx (jt s).2<=1048576)(k:J (jt s).2<=12):Ey s w (Se (Se wr ⟨Z w.1,0,U⟩ u0) ⟨Z w.1,1,U⟩ u1) fa fm v:=by
 have y:=h.2;have z:=h.8;have M:=h.7.lt;have c:∀q,q≠Z w.1->(Se (Se wr (A (Z w.1) 0) u0) (A (Z w.1) 1) u1).1[q]?=wr.1[q]?:=λq f=>G (cY f) (cY f);refine⟨n,(h.1.setCell (show Z w.1<=Z w.1 by omega) _).setCell (show Z w.1<=Z w.1 by omega) _,(h.4.keepS λq g b=>c q O).mono O (by rw[Xd,Xd];omega),?_,p,k,?_⟩
 .intro i a b o r u t e m;obtain⟨x,P,d,B,_⟩:=h.4 i a;rw[e]at d;cases d;exact h.5 i a b o r u t e<|G (Xc<|c b O).symm m
 have:=h.9.keep (w':=Se (Se wr (A (Z w.1) 0) u0) (A (Z w.1) 1) u1) λq g b=>c q O;obtain h|⟨j,C,K,e,T,a⟩:=this;·exact bC h
 exact aZ ⟨j,C,K,e,O,a⟩
theorem Dp{aj:Uy}{C c_:N}{bs:Wn}{L0 P:N}{w:Ub}(ha:Q (Yx w L0 P aj bs))(hx:Q (C=J bs))(hn:C<=1048576)(hB:P<=Z w.1):
 Sk prog 4 #[X aj C c_] w λi w'=>∃fa fm fc v,i=Rt (St #[Sa #[H (jt<|im bs).1,X fa fm fc],v,H (zK<|im bs)])/\Ey (im bs) w w' fa fm v:=by
 have Z_:=Y<|ha.keep (vT (dC P w) hB (Sc #[H 0,Hq] 25))
 go_in
 go_wp2_with fail
 refine YU (WP Z_ hx hn<|by simp;omega) λp⟨T,W,V⟩=>?_;rw[aO]at T W V |-;have HD:Q (i9 p (Z w.1+1) (Z p.1) (im bs)):=Y ⟨V,WF bs,W,aA⟩;have K:=Y T;have bg:Z w.1+2<=Z p.1:=O;clear T W V Z_;go_wp2_with fail
 refine(MO (im bs) HD).mono ?_;rintro i g⟨⟨fa,fm,fc,rfl,hm,ho⟩,ht,ba⟩;have HM:=Y hm;have f:=Y ho;have HT:=Y ht;have M_:Q (Bx g (Z w.1) #[H 0,Hq] 25):=Y<|((Bx.new w _ _).keep (K.5 _ O)).keep (f.8 _ O O);have y:Sw (Z w.1) w p:=(vT Rf aA _).trans (K.mono O);have N_:Q (Sw (Z w.1) w g):=Y ⟨G f.4 y.1,G f.5 y.2,G f.6 y.3,aJ y.4 f.7,λa7 hq=>G (f.8 a7 O O) (y.5 a7 hq)⟩;have a5:=f.7;clear hm ho ht y;go_wp2_with fail
 obtain⟨F,HF⟩:∃F,Q (F=jt (im bs)):=⟨_,Y R⟩;have n:=Xb (dC (Z g.1) g) (Sc #[H (jt<|im bs).1,X fa fm fc] 25);have af:=Y (Bx.new g #[H (jt<|im bs).1,X fa fm fc] 25);have ac:=Y (Mu fc (Rj<|im bs) (D g (Sc #[H (jt<|im bs).1,X fa fm fc] 25)) (Y<|f.2.keep n) HM HT n.4 O (by rw[aO];omega) (Y<|f.1.keep (n.mono a5)));refine ac.mono ?_;rintro i Y_⟨v,rfl,ap,ar,c⟩;have W_:Z (D g (Sc #[H (jt<|im bs).1,X fa fm fc] 25)).1=Z g.1+1:=aO _ _;have ao:pW (jt<|im bs) w (D g (Sc #[H (jt<|im bs).1,X fa fm fc] 25)) (Z p.1) (Z w.1+1) (Z g.1) fa fm fc Hq []:=⟨N_.trans<|n.mono N_.4,bg,by rw[W_];omega,f.2.keep n,λa6 hi b_ o_ ia C ic i hc=>by obtain⟨b',o',e',bb,_⟩:=f.2 a6 hi;rw[i]at e';cases e';exact f.3 a6 hi b_ o_ ia C ic i<|G (Xc<|n.5 b_ bb.2).symm hc,M_.keep<|n.5 _ M_.lt,af.o,a5,bC ⟨R,R⟩⟩
 have k:=ao.call O ar;rw[W_]at c;have O_:Q (pW (jt<|im bs) w Y_ (Z p.1) (Z w.1+1) (Z g.1) fa fm fc v (RY (jt<|im bs) (Rj<|im bs)).1):=Y ⟨k.1,k.2,k.3,k.4,k.5,k.6,k.7,k.8,c.keep' O⟩;have aa:Q (i9 Y_ (Z w.1+1) (Z p.1) (r9<|im bs)):=Y ap;have d:Q (zK (im bs)=(if (iw (r9<|im bs) 16).1=0 then Ku (jt<|im bs) (Rj<|im bs)-1 else if (iw (r9<|im bs) 16).1=2 then 64+(iw (iw (r9<|im bs) 16).2 2).1 else Ku (jt<|im bs) (Rj<|im bs))):=Y R;have e:Q (vQ (im bs)=(if (iw (r9<|im bs) 16).1=1/\0<J (RY (jt<|im bs) (Rj<|im bs)).1 then (RY (jt<|im bs) (Rj<|im bs)).1.set 0 ((RY (jt<|im bs) (Rj<|im bs)).1.getD (J (RY (jt<|im bs) (Rj<|im bs)).1-1) 0)else (RY (jt<|im bs) (Rj<|im bs)).1)):=Y R;have t:=Y λ(wr:Ub)(u0 u1:Uj)(a8:pW (jt<|im bs) w wr (Z p.1) (Z w.1+1) (Z g.1) fa fm fc v (vQ<|im bs))=>a8.fin (u0:=u0) (u1:=u1) HM.o HT ba;have bt:-10<=Ku (jt<|im bs) (Rj<|im bs)/\Ku (jt<|im bs) (Rj<|im bs)<=2010:=by have R_:=(BK<|jt (im bs)).2.1;have o:=kr (Rj<|im bs) (n:=3) O;unfold Ku;omega
 have bf:J (RY (jt<|im bs) (Rj<|im bs)).1<=2000:=FZ _ _;obtain⟨q,z,rfl⟩:=c.form;clear ao k c ap ar n ac f af M_ N_ HD K W_;generalize (RY (jt<|im bs) (Rj<|im bs)).1=l at*;generalize Ku (jt<|im bs) (Rj<|im bs)=x at*;obtain⟨h,ad⟩:∃h,Q (h=J l):=⟨_,Y R⟩;simp only[<-ad.o]at O_ e t bf |-;generalize r9 (im bs)=s4 at*;obtain⟨m,s5,b⟩:∃s X_,iw s4 16=(s,X_):=⟨_,_,R⟩;have r:=Y<|ki s4 16 Y_ aa O O;have a2:=kr s4 (n:=16) O;rw[b]at d e r a2;dsimp only at d e r a2 |-;clear b aa;go_wp2_with fail
 refine YU r λM⟨aq,au⟩=>?_;have a:=Y<|O_.call O au;have ab:=Y aq;clear aq au O_ r;have al:=Bx.c a.7 0;have am:=Bx.c a.7 1;have q_:=Bx.c a.6 0;have r_:=Bx.c a.6 1;have bz:=Bx.thaw a.6;by_cases Q_:m=0
 .subst Q_;have e0:((0:I)==0)=So:=vY;have e1:((0:I)==1)=Sn:=vY;have e2:((0:I)==2)=Sn:=vY;have bh:S6.wrap (x-1)=x-1:=by rw[dF];omega
  rw[aU R]at d;rw[aM O]at e;dsimp only;go_wp2;exact YL (v:=St #[Sa #[H (jt<|im bs).1,X fa fm fc],X q h z,H (x-1)]) ⟨fa,fm,fc,_,by rw[d.o],t.o M _ _<|by rw[e.o];exact a.o⟩
 have e0:(m==0)=Sn:=beq_false_of_ne Q_;rw[aM Q_]at d;by_cases R_:m=1
 .subst R_;have e1:((1:I)==1)=So:=vY;have e2:((1:I)==2)=Sn:=vY;rw[aM O]at d;by_cases hp:0<h
  .have be:Jd ((0:I)<(h:I))=So:=eB O;rw[aU ⟨R,hp⟩]at e;obtain⟨j,rfl⟩:∃j,h=j+1:=⟨h-1,O⟩;have bq:(((j+1:N):I))-1=(j:I):=O;have a1:j<J l:=oN ad.o;have a9:0<J l:=O;obtain⟨P_,bi,B,bd,bl,bn,_⟩:=a.9.at_ a1;simp only[Value.slice.injEq]at B;obtain⟨rfl,-,-⟩:=B;obtain⟨g',C',B,_,bm,_,a4⟩:=a.9.at_ a9;simp only[Value.slice.injEq,Option.some.injEq,Addr.mk.injEq]at B;obtain⟨⟨rfl,-,-⟩,-,-⟩:=B;have S_:=a.setC bd.1<|a4 l[j];have a0:l.getD (j+1-1) 0=l[j]:=by rw[vr];simp[List.getD,a1]
   rw[a0]at e;rw[<-e.o]at S_;have HS:=Y S_;clear S_ a0 a4;generalize l[j]=bk at*;generalize l[0]=X0 at*;have br:(j:I)<((j+1:N):I):=O;have bo:P_≠Z w.1:=oP a.2 a.8;have bp:P_≠Z g.1:=O;dsimp only;go_wp2;exact YL (v:=St #[Sa #[H (jt<|im bs).1,X fa fm fc],Hl P_ ((j+1:N)) z,H x]) ⟨fa,fm,fc,_,by rw[d.o],t.o _ _ _ HS.o⟩
  have be:Jd ((0:I)<(h:I))=Sn:=dJ O;rw[aM O]at e;dsimp only;go_wp2;exact YL (v:=St #[Sa #[H (jt<|im bs).1,X fa fm fc],X q h z,H x]) ⟨fa,fm,fc,_,by rw[d.o],t.o M _ _<|by rw[e.o];exact a.o⟩
 have e1:(m==1)=Sn:=beq_false_of_ne R_;rw[aM O]at e;by_cases o:m=2
 .subst o;have e2:((2:I)==2)=So:=vY;rw[aU R]at d;dsimp only;go_wp2_with fail
  refine YU (ki s5 2 M ab O O) λw6⟨bc,az⟩=>?_;have a3:=kr s5 (n:=2) O;obtain⟨s,s6,b⟩:∃s X_,iw s5 2=(s,X_):=⟨_,_,R⟩;rw[b]at a3 d |-;dsimp only at a3 d |-;have u:=Y<|a.call O az;clear b bc az ab a al am q_ r_ bz;have al:=Bx.c u.7 0;have am:=Bx.c u.7 1;have q_:=Bx.c u.6 0;have r_:=Bx.c u.6 1;have bz:=Bx.thaw u.6;have bh:S6.wrap (64+s)=64+s:=by rw[dF];omega
  go_wp2;exact YL (v:=St #[Sa #[H (jt<|im bs).1,X fa fm fc],X q h z,H (64+s)]) ⟨fa,fm,fc,_,by rw[d.o],t.o w6 _ _<|by rw[e.o];exact u.o⟩
 have e2:(m==2)=Sn:=beq_false_of_ne o;rw[aM o]at d;dsimp only;go_wp2;exact YL (v:=St #[Sa #[H (jt<|im bs).1,X fa fm fc],X q h z,H x]) ⟨fa,fm,fc,_,by rw[d.o],t.o M _ _<|by rw[e.o];exact a.o⟩
end
end Go.Proofs.YtcncjgijikoapaaGreatDoor
