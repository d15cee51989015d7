import Derived.Test.YtcncjgijikoapaaGreatDoorTN5
import Derived.Test.YtcncjgijikoapaaGreatDoorSPa
namespace Go.Proofs.YtcncjgijikoapaaGreatDoor
set_option maxHeartbeats 8000000
set_option maxRecDepth 100000
open _root_ renaming Array.size->Z,List.length->J,Nat->N,Int->I,rfl->R,Option.some->S,Option.none->U,absurd->Sz,Bool.false->Sn,trivial->JV,Bool.true->So,List.range->Rg
open Go renaming World.cell?->E,World.alloc->D,World.ownsRow->Sx,Obj.cells->Sc,undef->Su,RowKit.intOf->JB,Ending.returned->Rt,World.setCell->Se,Calls->Sk,IntKind.i64->S6,RowKit.Below->Sw
open Value renaming slice->X,agg->Sa,int->Si
open Go.RowKit Go.Proofs.Tryz
variable{r:Bool}{t T:I}{n m k B g i j c:N}{w v:Ub}{a A_:Uj}{p P:Uy}{h H_:Vu}{s:Wa}{l L:Wc}{x:Wi}{y:Wo}{q:Xe}
structure PR where
 j:N
 vp:Uj
 c12:Uj
 c13:Uj
 c14:Uj
 tl:Wo
theorem Oc{T:Yt}{V gc b:N}{C ad F Y_:N}{e:Za}{c0 c1 c2 c5:Uj}(hQ:Q (∀c (f:Act) Z_ ab W,T (.panic c) (f.put (S Z_) ab) W->T (.panic c) f W))(hw:Q (Xf w n m p l))(az:Q (C=J l))(bk:Q (Xf w n m P L))(bi:Q (F=J L))(V_:m<=Z w.1)(ba:E w (A B 1)=S (Hl V k gc))(bc:B<Z w.1)(bb:E w (A V (b*6))=S (Hl g i j))(hG:V<Z w.1)(ap:g<Z w.1)(au:Q (i=J e))(bl:Q (∀d (o:d<J e),E w (A g (d*2))=S (H e[d].1)/\∃S_ ac,E w (A g (d*2+1))=S (X S_ (J e[d].2) ac)/\Xf w n m S_ e[d].2/\J l<=J e[d].2))(a8:b<k)(hn:k<=11)(hz:Q (∀a1∈L,0<=a1/\a1<=1000))(bf:F<=11/\C<=11)(b1:i<=1000)(am:∀(vp a6 A_ u v:Uj)(K:N->N×N×N)(av:Vu)(y:Wo)(w':Ub),J y=134->nL w w' K b vp (RK k l L e) av->T (.exit 4) ⟨(c0::c1::c2::H ((k:N):I)::Hn B::c5::a::H ((b:N):I)::X p C ad::X P F Y_::vp::a6::A_::u::v::y).toArray,[]⟩ w'){vp u v:Uj}(a0:N->N×N×N){wr:Ub}(r:J y=134)(o:Q (nL w wr a0 b vp [] h)):
 Code.wp prog (Code.loop zX) T ⟨(c0::c1::c2::H ((k:N):I)::Hn B::c5::a::H ((b:N):I)::X p C ad::X P F Y_::vp::H ((0:N):I)::A_::u::v::y).toArray,[]⟩ wr:=by
 have HX:=Y am;clear am;refine iY (λM_ wr=>∃x:PR,M_=⟨(c0::c1::c2::H ((k:N):I)::Hn B::c5::a::H ((b:N):I)::X p C ad::X P F Y_::x.2::H ((x.j:N):I)::x.3::x.4::x.5::x.6).toArray,[]⟩/\J x.6=134/\x.j<=i/\Q (∃K av,nL w wr K b x.2 (RK k l L<|e.take x.j) av)) (λM_ _=>i-(JB<|M_.1.getD 11 Su).toNat) ⟨⟨0,vp,A_,u,v,y⟩,R,r,aN,Y ⟨a0,h,o.o⟩⟩ ?_;clear o r;rintro M_ wr⟨⟨d,vp,A_,u,v,y⟩,rfl,r,hj,I_⟩;dsimp only at r hj I_ |-
 conv=>arg 2;whnf
 obtain⟨a7,rfl⟩:=pN r;simp only[wK,Nat.reduceAdd];clear r;obtain⟨K,av,q⟩:=I_.o;have K_:=Y λM o_ (hq:M<Z w.1)=>q.1.cell (p:=A M o_) hq;have b4:=q.1.4;have x1:=G (K_.o B 1 bc) ba;have x2:=G (K_.o V (b*6) hG) bb;by_cases ar:d<i
 .have bg:(d:I)<i:=O;have aq:d<J e:=by rw[<-au.o];exact ar
  obtain⟨p0,S_,ac,p1,p2,p3⟩:=bl.o d aq;have x3:=G (K_.o g (d*2) ap) p0;have x4:=G (K_.o g (d*2+1) ap) p1;have a3:Q (RK k l L (e.take<|d+1)=RK k l L (e.take d)++[⟨e[d].1,oH k l L e[d].2⟩]):=Y (by unfold RK;rw[bN aq,bG];rfl)
  have R_:Q (J (RK k l L<|e.take d)=d):=Y (by unfold RK;rw[bK,dH];omega);have a5:=Y<|p2.keep (B:=m) (q.1.mono V_);have HW:=Y<|hw.keep (B:=m) (q.1.mono V_);have HN:=Y<|bk.keep (B:=m) (q.1.mono V_);have J_:=Y q;obtain⟨T_,W_⟩:∃T_,T_=J e[d].2:=⟨_,R⟩;rw[<-W_]at x4 p3;have a2:=Y W_;have bo:C<=T_:=oN az.o;clear W_ q I_ p0 p1 p2;generalize e[d].1=U_ at*;generalize e[d].2=bx at*;go_wp2_with fail
  have af:Q (nW wr (D wr (Sc #[H U_,Hq] 152)) U_ Hq []):=Y ⟨Xb Rf _,Bx.new _ _ _,dA⟩;refine No (by exact Y λc f Z_ ab W o=>hQ.o c f Z_ ab W o) HW az HN bi O x1 O x2 O x4 O a5 a2 a8 hn ar bo O hz bf ?_ (by rfl) af;intro bv u v y w2 r z;obtain⟨a7,rfl⟩:=pN r;simp only[wK,Nat.reduceAdd];clear r af;have t:=Y z;clear z x1 x2 x3 x4;obtain⟨ua,ul,uc,bm⟩:∃f bt c,bv=X f bt c:=by
   obtain⟨s,h0⟩|⟨_,_,_,s,_⟩:=t.3.2;·exact⟨U,0,0,s⟩
   exact⟨_,_,_,s⟩
  subst bm;obtain⟨qa,qc,bn⟩:∃f c,vp=X f d c:=by obtain⟨f,c,s⟩:=J_.2.form;rw[R_.o]at s;exact⟨f,c,s⟩
  subst bn;have q0:=Bx.c t.2 0;have q1:=Bx.c t.2 1;have b3:=t.1.4;have a4:Q (Sx w2 (Z w.1) 152 2 (X qa d qc) d (jw av<|RK k l L (e.take d))):=Y (by have:=Zl J_.2.1 (w':=w2) λM s=>t.1.5 M (J_.2.1.lt M s).2;rw[R_.o]at this;exact this)
  go_wp2_with (at_builtin;refine YC (n:=d) (xs:=jw av<|RK k l L (e.take d)) Ag a4 ?_)
  intro v8 w8 X_ ao bh aj;obtain⟨b5,z⟩:=J_.push t.o ao X_ (by rw[R_.o]) (by rw[aO];exact aj);rw[<-a3.o]at z;have O_:=Y z;obtain⟨g8,b0,rfl,bd,a9⟩:=Xm X_ O;clear bd a9 bh aj X_ ao z q0 q1;go_wp2;exact⟨⟨⟨d+1,_,_,_,_,_⟩,R,R,(by show d+1<=i;omega),Y ⟨_,_,O_.o⟩⟩,SA⟩
 have bg:¬(d:I)<i:=O
 have O_:Q (nL w wr K b vp (RK k l L e) av):=Y (by have:=q;rw[aW<|oN au.o]at this;exact this)
 clear q I_;go_wp2_with fail
 exact HX.o _ _ _ _ _ _ _ _ _ (by rfl) O_.o
def ub(k:I)(V:N)(s:cB)(x:Yg):Yg :=
 if k=11 then ⟨(iw s 13).1,x.2,x.a,x.b,x.5⟩else if k=12 then ⟨x.1,(iw s<|(V:I)+1).1,x.a,x.b,x.5⟩else if k=13 then ⟨x.1,x.2,(V:I),x.b,x.5⟩else if k=14 then ⟨x.1,x.2,x.a,-1,x.5⟩else ⟨x.1,x.2,x.a,x.b,(iw s 12).1⟩
def yB(k:I)(V:N)(s:cB)(a:Wc):Wc :=
 if k=8 then a++[0]else if k=9 then a.set 0 ((V:I)*(iw s 2).1)else a.drop 1
def t8(k:I)(V n:N)(s:cB)(t:Yj):Yj :=
 if k=1 then ⟨t.1,t.a,n,t.4⟩else if k=2 then ⟨t.1,t.a,t.3,t.3⟩else if k=3 then ⟨t.1,t.a,0,t.4⟩else if k=4 then ⟨(iw s 5).1,t.a,t.3,t.4⟩else if k=5 then ⟨t.1,(V:I),t.3,t.4⟩else t
def R6(k:I)(V n:N)(s:cB)(x:Xe):Xe :=
 if k=6 then ⟨x.1++[⟨0,[]⟩],x.2,x.3⟩
 else if k<6 then ⟨x.1,x.2,t8 k V n s x.3⟩
 else if k<11 then (if 0<J x.1 then ⟨x.1.set 0 ⟨(x.1.getD 0 Rl).1,yB k V s (x.1.getD 0 Rl).2⟩,x.2,x.3⟩else x)
 else (if 0<J x.2 then ⟨x.1,x.2.set (iw s (J x.2)).1.toNat (ub k V (iw s (J x.2)).2 (x.2.getD (iw s (J x.2)).1.toNat ⟨0,0,0,0,0⟩)),x.3⟩else x)
def L5(V:N)(a:Wi)(s:cB):Fn :=
 if (iw s 16).1=7 then ⟨V,[]⟩else
 ⟨if (iw s 16).1=0 then (V:I)+(iw (iw (iw s 16).2 (J a)).2 2).1*2-1 else V,a.set (iw (iw s 16).2 (J a)).1.toNat (R6 (iw s 16).1 V (J a) (iw (iw s 16).2 (J a)).2 (a.getD (iw (iw s 16).2 (J a)).1.toNat ip))⟩
def RT(k:I)(s:cB)(x:Xe):cB :=
 if k=0 then (iw s 2).2 else if k=4 then (iw s 5).2 else if k=9 then (if 0<J x.1 then (iw s 2).2 else s)else s
def ny(k:I)(V:N)(s:cB):cB :=
 if k=11 then (iw s 13).2 else if k=12 then (iw s<|(V:I)+1).2 else if k=15 then (iw s 12).2 else s
def Ss(k:I)(V:N)(s:cB)(x:Xe):cB :=
 if k=7 then s else if 0<J x.2 then ny k V (iw (RT k s x) (J x.2)).2 else RT k s x
def sE(V:N)(a:Wi)(s:cB):cB :=
 Ss (iw s 16).1 V (iw (iw s 16).2 (J a)).2 (a.getD (iw (iw s 16).2 (J a)).1.toNat ip)
def we(F:Fn)(g:cB)(B:N)(w:Ub)(b d:N)(e:Ending)(f:Ub):Prop:=∃a m c,e=Rt (Sa #[H F.1,X a m c])/\m=J F.2/\S8 w f b d a F.2 B g
def SU(x:Xe):Prop:=J x.1<=4/\(∀p∈x.1,J p.2<=1001)/\J x.2<=1000
theorem DX:∀(a:Za)(m:N),(∀p∈a,J p.2<=m)->JG a<=J a*m
 |[],m,_=>by simp[JG]
 |p::a,m,h=>by have d:=h p sP;have b:=DX a m (λq c=>h q<|by simp[c]);unfold JG at b |-;rw[eH,kX,bA,jK,jL];omega
theorem SU.le(h:SU q):ZZ q<=6000:=by have a:=DX q.1 1001 h.2.1;have b:=jI 1001 h.1;have c:=h.2.2;have d:=h.1;unfold ZZ;omega
theorem JA:∀(a:Wi),(∀x∈a,SU x)->Xx a<=J a*6000
 |[],_=>by simp[Xx]
 |x::a,h=>by have d:=(h x sP).le;have b:=JA a (λq c=>h q<|by simp[c]);unfold Xx at b |-;rw[eH,kX,bA,jK,jL];omega
theorem yO(b:J x<=12)(h:∀a∈x,SU a):J x+Xx x<=1048576:=by have:=JA x h;omega
def RQ(a:Wi):Prop:=∀x∈a,J x.1<=3
theorem RQ.get(h:RQ x)(i:N):J (x.getD i ip).1<=3:=by
 by_cases a:i<J x
 .rw[show x.getD i ip=x[i] by simp[a]];exact h _<|aH a
 rw[show x.getD i ip=ip by simp[a]];simp[ip]
theorem RQ.set(h:RQ x)(i:N)(b:J q.1<=3):RQ (x.set i q):=λy a=>by
 obtain a|a:=fE a;·exact h y a
 subst a;exact b
theorem Gq{b:Bool}{a:Wc}:∀(k i:N)(g:SV),RQ g.1->RQ (Rw b a k i g).1
 |0,_,_,h=>h
 |k+1,i,g,h=>by rw[Rw];refine Gq k (i+1) _ (h.set i ?_);show J (Rk (Ls _ g.s).1 g.v)<=3;rw[vX];exact yY _ _
theorem IX{b:Tm}:∀(k i:N)(a:Wi)(s:cB),RQ a->RQ (Nl b k i a s).1
 |0,_,_,_,h=>h
 |k+1,i,a,s,h=>by rw[Nl];refine IX k (i+1) _ _ (h.set i ?_);show J (Rx b _ _ 0 _ s).1<=3;rw[yZ];exact h.get i
theorem Gg{a:Wi}:∀(k b:N)(g:Wi),RQ g->RQ (oK a k b g)
 |0,_,_,h=>h
 |k+1,b,g,h=>by rw[oK];refine Gg k (b+1) _ (h.set b ?_);show J (RK _ _ _ _)<=3;unfold RK;rw[bK];exact h.get b
theorem Er(h:RQ x):RQ (mf x):=by unfold mf;refine Gg _ 0 _ λc a=>?_;unfold Ra at a;obtain⟨b,_,rfl⟩:=aY.1 a;exact h.get _
theorem Mx(h:RQ x):RQ (Sh n x):=λc a=>by unfold Sh at a;obtain⟨y,b,rfl⟩:=aY.1 a;have:=h y b;unfold Ru;simpa using this
theorem zm(s:cB)(b:Bool):RQ (Fz s b).1.2:=by
 have a:RQ (yE s b).1:=by unfold yE;refine IX _ _ _ _ (Gq _ _ _ λx c=>?_);rw[(wJ _ x c).1];simp
 unfold Fz;dsimp only;split
 .refine Mx ?_;split;·exact Er a
  exact a
 split;·exact Er a
 exact a
theorem zc(d:RQ x)(c:RS x):∀a∈x,SU a:=λa b=>⟨aJ (d a b) O,λp e=>aJ ((c a b).2.1 p e) O,(c a b).2.2⟩
theorem CI(b:RQ x)(c:RS x)(i:N):J (x.getD i ip).1<=3/\(∀p∈(x.getD i ip).1,J p.2<=1000)/\J (x.getD i ip).2<=1000:=by
 by_cases a:i<J x
 .rw[show x.getD i ip=x[i] by simp[a]];exact⟨b _<|aH a,(c _<|aH a).2⟩
 rw[show x.getD i ip=ip by simp[a]];simp[ip]
theorem y8(h:∀q∈x,SU q)(i:N)(b:SU q):∀y∈x.set i q,SU y:=λy a=>by
 obtain a|a:=fE a;·exact h y a
 subst a;exact b
theorem Cu(h:J q.1<=3/\(∀p∈q.1,J p.2<=1000)/\J q.2<=1000)(b:J l<=1001):SU ⟨q.1.set 0 ⟨t,l⟩,q.2,q.3⟩:=by
 refine⟨by show J (q.1.set 0 _)<=4;rw[bL];omega,λp a=>?_,h.2.2⟩;obtain a|a:=fE a;·exact aJ (h.2.1 p a) O
 subst a;exact b
theorem Gu(h:J q.1<=3/\(∀p∈q.1,J p.2<=1000)/\J q.2<=1000):J (q.1.getD 0 Rl).2<=1000:=by
 by_cases a:0<J q.1
 .rw[show q.1.getD 0 Rl=q.1[0] by simp[a]];exact h.2.1 _<|aH a
 rw[show q.1.getD 0 Rl=Rl by simp at a;simp[a]];simp[Rl]
theorem LM{V:N}{s:cB}(e:RQ x)(i:RS x):J (pK V x s).1=J x/\∀a∈(pK V x s).1,SU a:=by
 have d:=zc e i;have c:=λl=>CI e i l;have j:∀{a:Xe},(J a.1<=3/\(∀p∈a.1,J p.2<=1000)/\J a.2<=1000)->SU a:=λh=>⟨O,λp k=>aJ (h.2.1 p k) O,h.2.2⟩
 have g:∀b v s,J (sJ x b v s).1=J x/\∀a∈(sJ x b v s).1,SU a:=λb v s=>by
  unfold sJ;split;·exact⟨sP,y8 d b<|j (c b)⟩
  exact⟨R,d⟩
 have f:∀b v s,J (uR x b v s).1=J x/\∀a∈(uR x b v s).1,SU a:=λb v s=>by
  unfold uR;split
  .split;·exact⟨sP,y8 d b<|j ⟨(c b).1,(c b).2.1,by show J (List.set _ _ _)<=1000;rw[bL];exact(c b).2.2⟩⟩
   exact g b v _
  exact g b v s
 unfold pK yX;split
 .split
  .refine⟨sP,y8 d _ ?_⟩;exact Cu (c _) (by rw[bL];have:=Gu<|c (iw s (J x)).1.toNat;omega)
  exact f _ _ _
 exact f _ _ _
theorem U6{V:N}{s:cB}(e:RQ x)(f:RS x):J (L5 V x s).2<=J x/\∀c∈(L5 V x s).2,SU c:=by
 have g:=zc e f;have a:=λj=>CI e f j;have d:∀{c:Xe},(J c.1<=3/\(∀p∈c.1,J p.2<=1000)/\J c.2<=1000)->SU c:=λh=>⟨O,λp b=>aJ (h.2.1 p b) O,h.2.2⟩;unfold L5;split;·exact⟨aN,λc i=>Sz i sP⟩
 refine⟨sP,y8 g _ ?_⟩;unfold R6;split
 .refine⟨by show J (_++[_])<=4;rw[aQ];have:=(a (iw (iw s 16).2 (J x)).1.toNat).1;simp only[bA,bO];omega,λp b=>?_,(a _).2.2⟩;obtain b|b:=bU.1 b;·exact aJ ((a _).2.1 p b) O
  simp only[cH,eA,lL]at b;subst b;simp
 split;·exact d<|a _
 split
 .split
  .refine Cu (a _) ?_;have ha:=Gu<|a (iw (iw s 16).2 (J x)).1.toNat;unfold yB;split;·rw[aQ];simp only[bA,bO];omega
   split;·rw[bL];omega
   rw[mF];omega
  exact d<|a _
 split;·exact d ⟨(a _).1,(a _).2.1,by show J (List.set _ _ _)<=1000;rw[bL];exact(a _).2.2⟩
 exact d<|a _
def oF:Code->Code
 |.seq _ b=>b
 |c=>c
noncomputable def PI:Code:=(f30.body.getD .skip)
noncomputable def IU:Code:=oF<|oF (oF<|oF (oF PI))
noncomputable def CP:Code:=oF<|oF (oF<|oF (oF<|oF (oF<|oF IU)))
noncomputable def Ks:Code:=oF CP
noncomputable def U4:Code:=oF Ks
theorem SM(h:J y=169):∃f:Vu,y=wK f 10 169:=yS 10 169 y h
theorem Fo(V:N){K:N}(av:N->Vu){F:Fn}(L:cB){b:N}{o q:N}(X_:N->N×N×N)(M:cB){vq:I}{yq:Xe}{L_:Vu}{c3:Uj}(C:J y=169)(T:Q (n=J x))(W:b<J x)(z:Q (H_ b=X p i j))(J_:Q (F=⟨vq,x.set b yq⟩))(K_:Q (L=M)){c5:Uj}(d:Q (jd w v X_ m k B M vq K n c x h H_ av b g (X P o q) yq L_)):
 Code.wp prog U4 (bodyPost prog f30 λM_ w'=>we F L B w m k M_ w') ⟨(Sa #[H V,Hl K n c]::Hn k::Hn (Z w.1)::c3::Hn (Z w.1+1)::c5::H ((b:N):I)::H ((n:N):I)::Hn g::a::y).toArray,[]⟩ v:=by
 obtain⟨aa,rfl⟩:=SM C;simp only[wK,Nat.reduceAdd];clear C
 conv=>arg 2;whnf
 have ab:b<n:=oN T.o;have N_:=Bx.c d.17 1;have c0:=Bx.c d.21 0;have c1:E v (A g 1)=S (X p i j):=by rw[<-z.o];exact Bx.cell d.21 R
 have c2:=Bx.c d.21 2;have c3:=Bx.c d.21 3;have c4:=Bx.c d.21 4;have c5:=Bx.c d.21 5;obtain⟨⟨v0,O_⟩,⟨v1,Q_⟩,⟨v2,R_⟩,⟨v3,S_⟩,⟨v4,T_⟩,⟨v5,U_⟩,W_⟩:=d.gcells W;have ac:K≠g:=d.gxb;have f:=λu0 u1=>d.done (u0:=u0) (u1:=u1) W;rw[z.o]at f;have I_:=Y f;have e:Q (Bx (Se (Se (Se (Se (Se (Se v (A K (b*6)) (X P o q)) (A K (b*6+1)) (X p i j)) (A K (b*6+2)) (H yq.3.1)) (A K (b*6+3)) (H yq.3.a)) (A K (b*6+4)) (H yq.3.3)) (A K (b*6+5)) (H yq.3.4)) (Z w.1) #[H vq,Hl K n c] 25/\Bx (Se (Se (Se (Se (Se (Se v (A K (b*6)) (X P o q)) (A K (b*6+1)) (X p i j)) (A K (b*6+2)) (H yq.3.1)) (A K (b*6+3)) (H yq.3.a)) (A K (b*6+4)) (H yq.3.3)) (A K (b*6+5)) (H yq.3.4)) (Z w.1+1) #[H 0,Hq] 25):=Y ⟨(((((d.17.other d.gbox).other d.gbox).other d.gbox).other d.gbox).other d.gbox).other d.gbox,(((((d.19.other d.gres).other d.gres).other d.gres).other d.gres).other d.gres).other d.gres⟩;clear f
 go_upto_region 42 with fail
 have s:=λr u l=>Bx.cell (m:=r) (a:=u) e.1 l;have f0:=s 0 (H vq) R;have f1:=s 1 (Hl K n c) R;have t:=λr u l=>Bx.cell (m:=r) (a:=u) e.2 l;have Y_:=t 0 (H 0) R;have r4:=t 1 Hq R;have rz:=Bx.thaw e.2;clear N_ s t O_ Q_ R_ S_ T_ U_ W_ c0 c1 c2 c3 c4 c5;generalize Se (Se (Se (Se (Se (Se v _ _) _ _) _ _) _ _) _ _) _ _=w6 at*;go_wp2;rw[J_.o,K_.o];exact YL (v:=Sa #[H vq,Hl K n c]) ⟨_,n,c,R,by rw[bL];exact T.o,I_.o _ _⟩
theorem zj(V:N){K:N}(av:N->Vu){F:Fn}(s:cB){b:N}{C T:N}(l:N->N×N×N)(f:cB){vq:I}{yq:Xe}{r:Vu}{c3:Uj}(z:J y=169)(M:Q (n=J x))(L:b<J x)(o:Q (H_ b=X p i j))(E_:Q (F=⟨vq,x.set b yq⟩))(q:Q (s=if 0<i then (iw f (i:I)).2 else f))(rk:I)(Y_:i<=1000)(hr:rk<11)(d:Q (jd w v l m k B f vq K n c x h H_ av b g (X P C T) yq r)):
 Code.wp prog Ks (bodyPost prog f30 λs_ O_=>we F s B w m k s_ O_) ⟨(Sa #[H V,Hl K n c]::Hn k::Hn (Z w.1)::c3::Hn (Z w.1+1)::H rk::H ((b:N):I)::H ((n:N):I)::Hn g::a::y).toArray,[]⟩ v:=by
 obtain⟨X_,rfl⟩:=SM z;simp only[wK,Nat.reduceAdd];clear z
 conv=>arg 2;whnf
 have R_:(rk==11)=Sn:=SB
 have S_:(rk==12)=Sn:=SB
 have T_:(rk==13)=Sn:=SB
 have U_:(rk==14)=Sn:=SB
 have W_:(rk==15)=Sn:=SB
 have z1:E v (A g 1)=S (X p i j):=by rw[<-o.o];exact Bx.cell d.21 R
 go_upto_if 121 with fail
 go_cut []from 10 to 180 λQ_=>∃e,Q (s=e)/\Q (jd w Q_ l m k B e vq K n c x h H_ av b g (X P C T) yq r)
 case first=>
  by_cases W:0<i
  .have N_:(0:I)<i:=O;go_wp2_with fail
   refine YU (ki f (i:I) v (Y d.8) O O) λw5⟨t,u⟩=>?_;have I_:=Y<|d.call u t;clear t u;go_wp2;go_meet;exact⟨_,Y (by rw[q.o,aU W]),I_⟩
  have N_:¬(0:I)<i:=O;go_wp2;go_meet;exact⟨_,Y (by rw[q.o,aM W]),d⟩
 obtain⟨e,K_,J_⟩:=hcut;rename_i aK;exact aK _ _<|Fo V av s l e R M L o E_ K_ J_
theorem tX(V:N){L:N}(av:N->Vu){F:Fn}(K:cB){b:N}{d M:N}(q:N->N×N×N)(e:cB){vq:I}{yq:Xe}{u:Vu}{c3:Uj}(o:J y=169)(T:Q (n=J x))(z:b<J x)(r:Q (H_ b=X p i j))(s:Q (F=⟨vq,x.set b yq⟩))(t:Q (K=if 0<i then (iw e (i:I)).2 else e))(rk:I)(C:i<=1000)(Q_:rk<8)(l:Q (jd w v q m k B e vq L n c x h H_ av b g (X P d M) yq u)):
 Code.wp prog CP (bodyPost prog f30 λf W=>we F K B w m k f W) ⟨(Sa #[H V,Hl L n c]::Hn k::Hn (Z w.1)::c3::Hn (Z w.1+1)::H rk::H ((b:N):I)::H ((n:N):I)::Hn g::a::y).toArray,[]⟩ v:=by
 obtain⟨N_,rfl⟩:=SM o;simp only[wK,Nat.reduceAdd];clear o
 conv=>arg 2;whnf
 have L_:(rk==8)=Sn:=SB
 have M_:(rk==9)=Sn:=SB
 have K_:(rk==10)=Sn:=SB
 have R_:=Bx.c l.21 0
 go_upto_if 79 with fail
 go_cut []from 10 to 180 λJ_=>Q<|vL J_ v
 case first=>
  by_cases O_:0<d
  .have D_:(0:I)<d:=O;go_wp2;go_meet;exact Y R
  have D_:¬(0:I)<d:=O;go_wp2;go_meet;exact Y R
 have f:wc=v:=hcut.o;subst f;rename_i aK;exact aK _ _<|zj V av K q e R T z r s t rk C O l
structure B3(rk:I)(V G_ n c:N)(xs:Wi)(lab:N->N×N×N)(base:N)(pv iv:Vu)(av:N->Vu)(sb B:N)(s s2:cB)(w wx:Ub)(b xb:N)(hb:b<J xs)(pa:Uy)(np pc:N)(ia:Uy)(ni ic:N):Prop where
 hn:Q (n=J xs)
 h1:1<=n
 hn2:n<=11
 hbs:base<=Z w.1
 hbb:B<=base
 hV:V<=1000
 HSMB:Q (J xs[b].1<=1000/\(∀p∈xs[b].1,J p.2<=1000)/\J xs[b].2<=1000)
 HAG:Q (∀p∈xs[b].1,0<J p.2)
 hbn:b<n
 HNP:Q (np=J xs[b].1)
 HNI:Q (ni=J xs[b].2)
 hni2:ni<=1000
 hnp2:np<=1000
 HSX:Q (jd w wx lab base sb B s2 (V:I) G_ n c xs pv iv av b xb (X pa np pc) xs[b] (av b))
 HRW:Q (∀j (hj:j<J xs[b].1),Xv wx lab (4,b,j) base 2 1 (av b j) (J xs[b].1[j].2) (hC xs[b].1[j].2))
 HIV:Q (iv b=X ia ni ic)
 HP:Q (L5 V xs s=if rk=7 then ⟨V,[]⟩else ⟨if rk=0 then (V:I)+(iw s2 2).1*2-1 else V,xs.set b<|R6 rk V n s2 xs[b]⟩)
 HZP:Q (sE V xs s=Ss rk V s2 xs[b])
theorem B3.qs{rk:I}(V z n c:N)(e:Wi)(v:N->N×N×N)(p:N)(x t:Vu)(av:N->Vu)(o B:N)(y s2:cB)(w a:Ub)(b d:N)(r:b<J e)(l:Uy)(k m:N)(g:Uy)(j i:N)(C:B3 rk V z n c e v p x t av o B y s2 w a b d r l k m g j i):E a (A d 0)=S (X l k m)/\E a (A d 1)=S (X g j i)/\E a (A d 2)=S (H e[b].3.1)/\E a (A d 3)=S (H e[b].3.a)/\E a (A d 4)=S (H e[b].3.3)/\E a (A d 5)=S (H e[b].3.4)/\(∀q,a.frozen? (A d q)=Sn)/\E a (A (Z w.1) 0)=S (H V)/\E a (A (Z w.1) 1)=S (Hl z n c)/\(∀q,a.frozen? (A (Z w.1) q)=Sn)/\Q (o≠d) :=
 have f:=C.14.o;have h:∀q u,#[X l k m,X g j i,H e[b].3.1,H e[b].3.a,H e[b].3.3,H e[b].3.4][q]?=S u->E a (A d q)=S u:=λq u s=>Bx.cell f.21 (by rw[C.16.o];exact s)
 ⟨h 0 _ R,h 1 _ R,h 2 _ R,h 3 _ R,h 4 _ R,h 5 _ R,Bx.thaw f.21,Bx.cell f.17 R,Bx.cell f.17 R,Bx.thaw f.17,Y (by have:=f.lt;have:=f.23;have:=f.bs;omega)⟩
def oO(rk:I):Prop:=∀(V y n c:N)(a:Wi)(p:N->N×N×N)(e:N)(v o:Vu)(av:N->Vu)(d B:N)(s s2:cB)(w g:Ub)(b h:N)(k:b<J a)(t:Uy)(r u:N)(l:Uy)(q m:N)(c3 i:Uj)(f:Wo)(_:J f=169)(_:B3 rk V y n c a p e v o av d B s s2 w g b h k t r u l q m),Code.wp prog IU (bodyPost prog f30 λj x=>we (L5 V a s) (sE V a s) B w e d j x) ⟨(Sa #[H V,Hl y n c]::Hn d::Hn (Z w.1)::c3::Hn (Z w.1+1)::H rk::H ((b:N):I)::H ((n:N):I)::Hn h::i::f).toArray,[]⟩ g
theorem Pz{L:N}(i:N->N×N×N)(av:N->Vu)(s:cB)(hF:Q (xW w i k (Hl L m c) x h H_ av))(P:Q (m=J x))(h1:1<=m)(ao:m<=11)(U_:k<=Z w.1)(al:Q (∀b,Z w.1<=b->i b=(0,0,0)))(V_:Q (i9 w B g s))(T_:g<=k)(hV:n<=1000)(ar:Q (RS x))(af:Q (pY x))(hK:Q (oO (iw s 16).1)):
 Sk prog 30 #[Sa #[H n,Hl L m c],Hn B] w λr w'=>we (L5 n x s) (sE n x s) g w k B r w':=by
 have e:Q (L5 n x s=if (iw s 16).1=7 then ⟨n,[]⟩else ⟨if (iw s 16).1=0 then (n:I)+(iw (iw (iw s 16).2 (m:I)).2 2).1*2-1 else n,x.set (iw (iw s 16).2 (m:I)).1.toNat (R6 (iw s 16).1 n m (iw (iw s 16).2 (m:I)).2 (x.getD (iw (iw s 16).2 (m:I)).1.toNat ip))⟩):=Y (by rw[P.o];rfl);have f:Q (sE n x s=Ss (iw s 16).1 n (iw (iw s 16).2 (m:I)).2 (x.getD (iw (iw s 16).2 (m:I)).1.toNat ip)):=Y (by rw[P.o];rfl);have K:Q (Ry w (D (D w (Sc #[H n,Hl L m c] 25)) (Sc #[H 0,Hq] 25)) i k B g s n L m c x h H_ av):=Y (by have Y_:XW w (D (D w (Sc #[H n,Hl L m c] 25)) (Sc #[H 0,Hq] 25)) i i k (λ_=>True):=((XW.box _).trans (XW.box _)).weak λ_ _=>⟨JV,JV⟩;refine⟨hF.sp Y_ 0 (λ_ _ _ _ _=>JV) (bC λ_ _=>JV),(V_.box _).box _,T_,R,R,R,Y_.1,λb a _=>G (gF _ _ _<|by simp;omega) (gF _ _ _ O),al.o,U_,(Bx.new _ _ _).box _,?_⟩;have:=Bx.new (D w (Sc #[H n,Hl L m c] 25)) #[H 0,Hq] 25;rwa[aO]at this)
 clear hF V_
 go_in
 go_wp2_with fail
 generalize D (D w _) _=w0 at*;refine YU (ki s 16 w0 (Y K.2) O O) λw1⟨u,v⟩=>?_;have N_:=λt=>kr s (n:=16) t;have p:=Y<|K.call v u;obtain⟨rk,s1,q⟩:∃Q_ R_,iw s 16=(Q_,R_):=⟨_,_,R⟩;rw[q]at p e f N_ |-;dsimp only at p e f N_ |-;rw[q]at hK;dsimp only at hK;clear u v q K N_;have Z_:=Bx.c p.11 1;go_wp2_with fail
 refine YU (ki s1 (m:I) w1 (Y p.2) O O) λM⟨u,v⟩=>?_;have C:=λt=>kr s1 (n:=(m:I)) t;have d:=Y<|p.call v u;obtain⟨rb,s2,q⟩:∃Q_ R_,iw s1 (m:I)=(Q_,R_):=⟨_,_,R⟩;rw[q]at d e f C |-;dsimp only at d e f C |-;have am:=C O;obtain⟨b,rfl⟩:=Zv am.1;rw[dM]at e f;clear u v q p Z_ C;have a:b<J x:=oN P.o;have aj:b<m:=O;have X_:x.getD b ip=x[b]:=by simp[a]
 rw[X_]at e f;clear X_;have L_:=Y<|ar.o _ (aH a);have aa:=Y<|af.o _ (aH a);have Z_:=Bx.c d.11 1;obtain⟨p0,p1,⟨t0,t1,t2,t3⟩⟩:=d.1.cells a;obtain⟨T,V,z⟩:=(d.1.2 b a).form;obtain⟨o,P_⟩:∃o,o=J x[b].1:=⟨_,R⟩;rw[<-P_]at z;obtain⟨W,F,y⟩:=(d.1.3 b a).form;obtain⟨l,O_⟩:∃l,l=J x[b].2:=⟨_,R⟩;rw[<-O_]at y;rw[z]at p0;rw[y]at p1;have ad:=Y P_;have ac:=Y O_;have ap:l<=1000:=oN L_.o;have aq:o<=1000:=oN L_.o;clear P_ O_;have M_:=Y<|d.hand a;rw[z,y]at M_;have S_:Q (∀j (W_:j<J x[b].1),Xv (D M (Sc #[X T o V,X W l F,H x[b].3.1,H x[b].3.a,H x[b].3.3,H x[b].3.4] 52)) i (4,b,j) k 2 1 (av b j) (J x[b].1[j].2) (hC x[b].1[j].2)):=Y λj W_=>(d.1.4 b a j W_).sp (XW.box _) λ_ _=>JV;have a0:Q (Z w.1+2<=Z M.1):=Y d.12.lt;have az:=Y z;have ab:=Y y;clear z y
 go_upto_region 4 with fail
 go_cut [8]from 10 to 180 λau wy=>au=Hn (Z M.1)/\Q (vL wy<|D M (Sc #[X T o V,X W l F,H x[b].3.1,H x[b].3.a,H x[b].3.3,H x[b].3.4] 52))
 case first=>
  go_wp2;go_meet;exact⟨R,Y R⟩
 obtain⟨rfl,t⟩:=hcut;have r:wc=(D M (Sc #[X T o V,X W l F,H x[b].3.1,H x[b].3.a,H x[b].3.3,H x[b].3.4] 52)):=t.o;rw[<-r]at M_ S_;rename_i aK;exact aK _ _<|hK.o n L m c x i k h H_ av B g s s2 w wc b _ a T o V W l F _ _ _ R ⟨P,h1,ao,U_,T_,hV,L_,aa,aj,ad,ac,ap,aq,M_,S_,ab,e,f⟩
section
theorem uL{tg r P}(h:YX tg r P):∀(m b:N),Re tg b->(XT P m b).Pairwise λc e=>¬JO tg e c
 |0,b,_=>by simp[XT]
 |m+1,b,hb=>by
  rw[XT,List.pairwise_cons];refine⟨λx d i=>?_,?_⟩
  .obtain⟨c,a,d⟩:=bV.1 d;have j:=Kf h a;exact j.2<|Z1 j.1 (J8 (Ji h m c x j.1.2 d) i)
  rw[iK];refine⟨λc a=>uL h m c (Kf h a).1.2,?_⟩;have p:(Nj P b).Nodup:=List.nodup_range.sublist jR;refine jT (λ{c e} a i l x d y q g=>?_) p;have f:=Kf h a;have id:=Kf h i;have n:=Ji h m c x f.1.2 d;have o:=J8 (Ji h m e y id.1.2 q) g;obtain k|k:=TY n o;·exact f.2<|Z1 f.1 (id.3 c k l)
  exact id.2<|Z1 id.1 (f.3 e k λg=>l g.symm)
structure PP(V:N)(xs:Wi)(b k:N)(s:N×Wa):Prop where
 lt:s.1<V
 df:Wl xs s.1 b k
 bn:b<J xs
 kn:∀x,xs[b]?=S x->k<=J x.2
 st:∀x,xs[b]?=S x->s.2=Uq xs x V b k
theorem WL{V xs}(d:Jy V xs){b x}(e:xs[b]?=S x){s:N×Wa}(h:s∈Ni xs V b x (J x.1)):PP V xs b 0 s:=by unfold Ni at h;rw[gC]at h;obtain⟨p,c,rfl⟩:=aY.1 h;have f:=eN e;have g:=d.8 x f p c;refine⟨by show p.1.toNat<V;omega,?_,(cV.1 e).1,λ_ _=>aN,λz a=>by rw[e]at a;cases a;rfl⟩;show Yo xs b p.1.toNat=So;unfold Yo;rw[e];exact XD.2<|aY.2 ⟨p,c,O⟩
theorem UZ{V xs}(c:Jy V xs){b x}(e:xs[b]?=S x):∀(k:N){s:N×Wa},s∈VC xs V b x k->∃j,j<k/\PP V xs b (j+1) s
 |0,s,h=>by cases h
 |k+1,s,h=>by
  rw[VC]at h;obtain h|h:=bU.1 h
  .obtain⟨j,g,h⟩:=UZ c e k h;exact⟨j,O,h⟩
  cases ey:x.2[k]? with
  |none=>rw[ey]at h;cases h
  |some y=>
   rw[ey]at h;obtain⟨v,hv,rfl⟩:=aY.1 h;have d:=c.6 x (eN e) y (eN ey) v hv;have f:=(cV.1 ey).1;refine⟨k,iJ,by show v.toNat<V;omega,⟨x,y,e,ey,?_⟩,(cV.1 e).1,λz a=>by rw[e]at a;cases a;exact f,λz a=>by rw[e]at a;cases a;rfl⟩;show((v.toNat:N):I)∈BW y;rw[fR d.1];exact hv
theorem qR{V xs}(a:Jy V xs){b}{s:N×Wa}(h:s∈OV xs V b):∃k,PP V xs b k s:=by
 unfold OV at h;cases e:xs[b]? with
 |none=>rw[e]at h;cases h
 |some x=>
  rw[e]at h;obtain h|h:=bU.1 h;·exact⟨0,WL a e h⟩
  let⟨j,_,h⟩:=UZ a e _ h;exact⟨j+1,h⟩
def PX(xs:Wi)(s t:N×Wa):Prop:=∀b i,OD xs s.1 b i->OD xs t.1 b i->s.1∈t.2
section
variable {V: N} {xs: Wi} (hv: XJ ⟨(V: I), xs⟩ = So) (hr: Jq xs) (hns: ¬ ∃ x, N4 xs x)
include hv hr hns
theorem oY{d k e m}{s t:N×Wa}(c:PP V xs d k s)(a:PP V xs e m t)(j:∀b,JO (X8 xs) d b->JO (X8 xs) e b->JO (X8 xs) d e)(l:d=e->k<=m):PX xs s t:=λb o f g=>by have n:=XH hv;have i:=j b (WG hv hr hns c.2 f).1 (WG hv hr hns a.2 g).1;have h:=DP hv hr hns n.1 c.2 a.2 f g i l;rw[a.5 _<|aC a.3];exact OD.to_ c.1 a.3 h
theorem uH{b x}(e:xs[b]?=S x):∀k,(VC xs V b x k).Pairwise (PX xs)
 |0=>lU
 |k+1=>by
  have d:=XH hv;rw[VC,kY];refine⟨uH e k,?_,λs c t a=>?_⟩
  .cases ey:x.2[k]? with
   |none=>exact lU
   |some y=>
    show(List.map _<|BW y).Pairwise _;unfold BW;cases dB y.1<;>simp
  obtain⟨n,j,c⟩:=UZ d e k c
  obtain⟨i,l,f⟩:=UZ d e (k+1) (s:=t) (by rw[VC];exact fB _ a);have m:i=k:=by
   cases ey:x.2[k]? with
   |none=>rw[ey]at a;cases a
   |some y=>
    rw[ey]at a;obtain⟨v,g,rfl⟩:=aY.1 a;have h:=d.6 x (eN e) y (eN ey) v g;have:=(Wl.one hv f.2 (b':=b) (k':=k+1) ⟨x,y,e,ey,by show((v.toNat:N):I)∈_;rw[fR h.1];exact g⟩).2;omega
  exact oY hv hr hns c f (λ_ _ _=>Zd<|hr b c.3) λ_=>O
theorem DG(b):(OV xs V b).Pairwise (PX xs):=by
 have c:=XH hv;unfold OV;cases e:xs[b]? with
 |none=>exact lU
 |some x=>
  show(_++_:List _).Pairwise _;rw[kY];refine⟨?_,uH hv hr hns e _,λs h t i=>?_⟩
  .rw[gY];intro k j f g _;have a:=WL c e<|aH f;have d:=WL c e<|aH g;exact oY hv hr hns a d (λ_ _ _=>Zd<|hr b a.3) λ_=>aA
  have a:=WL c e h;let⟨j,_,d⟩:=UZ c e _ i;exact oY hv hr hns a d (λ_ _ _=>Zd<|hr b a.3) λ_=>aN
theorem D7{P}(k:YX (X8 xs) (J xs) P):(Ko xs V<|XT P (J xs) 0).Pairwise (PX xs):=by
 have f:=XH hv;unfold Ko;rw[iK];refine⟨λd _=>DG hv hr hns d,?_⟩;refine(uL k (J xs) 0 Re.root).imp λ{c l} e s a t b=>?_;let⟨m,a⟩:=qR f a;let⟨n,b⟩:=qR f b;refine oY hv hr hns a b (λd i j=>?_) λg=>?_
 .rcases TY i j with h|h;·exact h
  exact Sz h e
 subst g;exact Sz (Zd<|hr c a.3) e
end
theorem uu{V}{d:List (N×Wa)}(h:mn V d){b c:List (N×Wa)}{t:N×Wa}(e:d=b++t::c){s:N×Wa}(a:s∈b++[t]):∀r∈c,r.1≠s.1:=λr hr=>by
 obtain⟨f,g,rfl⟩:=kD hr;have:=h.2 (b++t::f) r g (by rw[e];simp) s (by
  obtain a|a:=bU.1 a;·exact dD _ a
  rw[cS.1 a];exact fB _ cI)
 exact λq=>this q.symm
theorem wS{V}{c:List (N×Wa)}(h:mn V c){a b:List (N×Wa)}{t:N×Wa}(e:c=a++t::b)(C):Kq C c t.1=(Nx (Kq C a) t.2:I)/\(∀s∈a,Kq C c s.1=Kq C a s.1)/\Kq C a t.1=C t.1:=by
 have e1:Kq C c=Kq (Nn (Kq C a) t) b:=by rw[e];unfold Kq;rw[dT];rfl
 refine⟨?_,λs d=>?_,TE a C λs d=>h.2 a t b e s d⟩
 .rw[e1,TE b _<|uu h e (fB _<|cS.2 R)];unfold Nn;rw[aU R]
 rw[e1,TE b _<|uu h e (dD _ d)];unfold Nn;rw[aM<|h.2 a t b e s d]
theorem F3{V xs}{b:List (N×Wa)}(h:mn V b)(k:b.Pairwise (PX xs))(C){u w d i}(o:u<V)(p:w<V)(m:u≠w)(g:OD xs u d i)(j:OD xs w d i):Kq C b u≠Kq C b w:=by
 have l:∀(s t:N×Wa)(c f:List (N×Wa)),b=c++t::f->s∈c->OD xs s.1 d i->OD xs t.1 d i->Kq C b s.1≠Kq C b t.1:=λs t c f e a q r=>by let⟨q1,q2,_⟩:=wS h e C;rw[q1,q2 s a];rw[e,kY]at k;exact(oa _ _).1 s.1 (k.2.2 s a t cI d i q r)
 obtain⟨s,a,rfl⟩:=h.3 u o;obtain⟨t,n,rfl⟩:=h.3 w p;let⟨c,f,e⟩:=kD n;rw[e]at a;obtain a|a:=bU.1 a;·exact l s t c f e a g j
 obtain a|a:=cH.1 a;·exact Sz (by rw[a]) m
 let⟨v,x,e2⟩:=kD a;exact λy=>l t s (c++t::v) x (by rw[e,e2];simp) (fB _ cI) j g y.symm
theorem Fk{V}{b:List (N×Wa)}(h:mn V b){t:N×Wa}(j:t∈b)(d:t.1∈t.2):Kq (λ_=>-1) b t.1+1<=J t.2:=by
 let⟨a,m,e⟩:=kD j;let⟨q1,_,q3⟩:=wS h e λ_=>-1;rw[q1];have g:=(oa (Kq (λ_=>-1) a) t.2).2;generalize Nx (Kq (λ_=>-1) a) t.2=c at*;have f:=K3 (A_:=Rg c) (B:=(t.2.erase t.1).map λu=>(Kq (λ_=>-1) a u).toNat) kS (λx l=>by
  let⟨u,k,e⟩:=g x<|bE.1 l;have i:u≠t.1:=λe2=>by rw[e2,q3]at e;omega
  exact aY.2 ⟨u,(iF i).2 k,by rw[e];rfl⟩)
 rw[bK,fP d,gI]at f;have:=eJ d;omega
theorem wh{C:Ym}{M}(a:0<=M):∀V,(∀u,u<V->C u+1<=M)->NE C V<=M
 |0,_=>a
 |V+1,h=>by rw[NE];have b:=wh a V λu d=>h u O;have c:=h V<|iJ;omega
theorem qZ{C:Ym}{u}:∀V,u<V->C u+1<=NE C V
 |V+1,h=>by
  rw[NE];by_cases e:u=V;·subst e;omega
  have:=qZ (C:=C) V (show u<V by omega);omega
theorem vu{xs V l}(h:l∈Zw xs V (J xs)):∃(b:N)(f:b<J xs)(i:N),i<=J xs[b].2/\l=Uq xs xs[b] V b i:=by let⟨s,a,c⟩:=bV.1 h;have a:=bE.1 a;let⟨i,d,e⟩:=(Jr a).1 c;exact⟨s,a,i,d,e⟩
theorem wO(xs x V b i):(Uq xs x V b i).Nodup:=by unfold Uq;exact List.nodup_range.sublist jR
theorem FD{xs V l}(h:l∈Zw xs V (J xs)):J l<=NW (Zw xs V (J xs)):=(TL).1 aA l h
theorem EM{V:N}{xs P}(hv:XJ ⟨(V:I),xs⟩=So)(hr:Jq xs)(hns:¬∃x,N4 xs x)(j:YX (X8 xs) (J xs) P):
 NE (Kq (λ_=>-1) (Ko xs V<|XT P (J xs) 0)) V=(NW (Zw xs V (J xs)):I)/\(∀l∈Zw xs V (J xs),(l.map λu=>(Kq (λ_=>-1) (Ko xs V<|XT P (J xs) 0) u).toNat).Nodup)/\∀u,u<V->0<=Kq (λ_=>-1) (Ko xs V<|XT P (J xs) 0) u:=by
 have C:=XH hv;have i:=vV hv hr j;have K:=D7 hv hr hns j;have g:∀u,u<V->0<=Kq (λ_=>-1) (Ko xs V<|XT P (J xs) 0) u:=λu c=>UP _ _<|aZ (i.3 u c)
 have L:∀v∈Ko xs V (XT P (J xs) 0),∃b k,PP V xs b k v:=λv a=>by let⟨b,_,a⟩:=bV.1 a;let⟨k,a⟩:=qR C a;exact⟨b,k,a⟩
 generalize K_:Ko xs V (XT P (J xs) 0)=e at*;have p:∀l∈Zw xs V (J xs),(l.map λu=>(Kq (λ_=>-1) e u).toNat).Nodup:=λl d=>by obtain⟨b,m,M,n,rfl⟩:=vu d;show List.Pairwise _ _;rw[List.pairwise_map];refine jT (λ{u T} c r B I_=>?_) (wO xs xs[b] V b M);have f:=JF d c;have s:=JF d r;have:=F3 i K (λ_=>-1) f s B (OD.of m n c) (OD.of m n r);have w:=g u f;have y:=g T s;omega
 refine⟨?_,p,g⟩;have w:NE (Kq (λ_=>-1) e) V<=(NW (Zw xs V (J xs)):I):=wh O V (λu c=>by
  obtain⟨t,q,rfl⟩:=i.3 u c;let⟨b,k,a⟩:=L t q;have e2:=a.5 _<|aC a.3;have o:=a.4 _<|aC a.3;have W:t.1∈t.2:=by rw[e2];exact OD.to_ a.1 a.3 ⟨xs[b]'a.3,aC a.3,o,bC a.2⟩
  have h:=Fk i q W;have z:=FD<|bV.2 ⟨b,bE.2 a.3,(Jr a.3).2 ⟨k,o,e2⟩⟩;omega)
 have y:NW (Zw xs V (J xs))<=(NE (Kq (λ_=>-1) e) V).toNat:=(TL).2 (λl d=>by
  have h:=YS (p l d) (n:=(NE (Kq (λ_=>-1) e) V).toNat) (λx F=>by obtain⟨u,c,rfl⟩:=aY.1 F;have f:=JF d c;have z:=qZ (C:=Kq (λ_=>-1) e) V f;have J_:=g u f;omega)
  rw[bK]at h;exact h)
 have h:=UJ (Kq (λ_=>-1) e) V;omega
theorem B7{xs V}:NW (Zw xs V (J xs))<=V:=(TL).2 (λl a=>by obtain⟨c,d,i,_,rfl⟩:=vu a;exact YS (wO _ _ _ _ _) λu b=>JF a b)
end
def FSx:List Bool->List N->List N
 |k::ks,p::ps=>if k then p::FSx ks ps else FSx ks ps
 |_,_=>[]
theorem rG(g:N):∀(a:List Bool)(b:Wa),(Yd a<|b.map λo=>(A g o)).map Tx=(FSx a b).map λo=>Tx (A g o)
 |[],_=>by simp[Yd,FSx]
 |k::a,[]=>by simp[Yd,FSx]
 |k::a,o::b=>by cases k<;>simp[Yd,FSx,rG g a b]
theorem xR(a:Wc)(P:Wo):∀(b:Wa)(c:Wo),lP a (b.map λo=>J P+o) (P++c)=P++lP a b c
 |[],_=>R
 |o::b,c=>by show lP a (b.map λo=>J P+o) ((P++c).set (J P+o) (jr a (P++c)[J P+o]?))=P++lP a b (c.set o<|jr a c[o]?);rw[Hu _ _ O,eV O,uB,xR a P b]
theorem H9{x}:lP l (FSx [dB x.1,aB x.1,bB x.1] [1,2,3]) (Yg.cells x++y)=Yg.cells (ZR l x)++y:=by unfold ZR Yg.cells;cases dB x.1<;>cases aB x.1<;>cases bB x.1<;>rfl
theorem xG{a x}{B:Vr}:ZP (a++x::B)=ZP a++(Yg.cells x++ZP B):=by rw[j7,rM];rfl
theorem Ii(a)(b:Vr)(x)(B:Vr):lP a (FSx [dB x.1,aB x.1,bB x.1] [J b*5+1,J b*5+2,J b*5+3]) (ZP (b++x::B))=ZP (b++ZR a x::B):=by
 have e:FSx [dB x.1,aB x.1,bB x.1] [J b*5+1,J b*5+2,J b*5+3]=(FSx [dB x.1,aB x.1,bB x.1] [1,2,3]).map λo=>J (ZP b)+o:=by rw[iR];cases dB x.1<;>cases aB x.1<;>cases bB x.1<;>rfl
 rw[e,xG,xR,H9,<-xG]
theorem xx(b g){q}:∀(a:Wa)(w:Ub),q∉a->E (recW b g a w) (A g q)=E w (A g q)
 |[],_,_=>R
 |o::a,w,h=>by show E (recW b g a _) _=_;rw[xx b g a _ λc=>h<|cN _ c];have:o≠q:=λe=>h (by rw[e];exact cI);exact @cJ w.drew _ _ _ λe=>this<|by injection e
theorem yi{cs:Wc}(h:∀o∈s,∃z:N,E w (A g o)=S (H z)/\z<J cs)(c:s.Nodup):∀j (h:j<J s),∃z:N,E (recW cs g (s.take j) w) (A g<|s[j])=S (H z)/\z<J cs:=λj f=>by
 let⟨z,a,b⟩:=h _<|aH f;refine⟨z,?_,b⟩;rw[xx cs g _ _ λi=>?_];·exact a
 let⟨k,d,e⟩:=bR i;rw[jG]at e;rw[dH]at d;have:=(List.getElem_inj c).1 e;omega
theorem Iz(g:n=J l){x}(a:∀v∈Iw x,0<=v/\v<n)(c:∀v∈BW x,0<=v/\v<n)(e:Jk w m k x):∀q∈FSx [dB x.1,aB x.1,bB x.1] [k+1,k+2,k+3],∃z:N,E w (A m q)=S (H z)/\z<J l:=by
 let⟨_,c1,c2,c3,_⟩:=e;have b:∀(v:I)(q:N),E w (A m q)=S (H v)->0<=v/\v<n->∃z:N,E w (A m q)=S (H z)/\z<J l:=λv q d h=>⟨v.toNat,by rw[d];congr 2;omega,O⟩
 unfold Iw at a;unfold BW at c;intro q hq;have f:(dB x.1=So/\q=k+1)\/(aB x.1=So/\q=k+2)\/(bB x.1=So/\q=k+3):=by revert hq;cases dB x.1<;>cases aB x.1<;>cases bB x.1<;>simp[FSx]
 obtain⟨hu,rfl⟩|⟨hu,rfl⟩|⟨hu,rfl⟩:=f;·exact b _ _ c1<|c _ (by simp[hu])
 .exact b _ _ c2<|a _ (by simp[hu])
 exact b _ _ c3<|a _ (by simp[hu])
theorem GJ{a b}:(FSx [r,a,b] [n+1,n+2,n+3]).Nodup:=by cases r<;>cases a<;>cases b<;>simp[FSx]
theorem Ig(a b c o):∀q∈FSx [a,b,c] [o+1,o+2,o+3],o<q/\q<o+4:=by cases a<;>cases b<;>cases c<;>simp[FSx]<;>omega
structure Pa(w0 wr:Ub)(base ob:N)(v:Uj)(t:Yj)(ys:Vr):Prop where
 low:Sw base w0 wr
 bx:Bx wr ob #[v,Si S6 t.1,Si S6 t.a,Si S6 t.3,Si S6 t.4] 54
 row:Sx wr base 64 5 v (J ys) (ZP ys)
 ne:v.ownBlock≠S ob
 le:base<=ob
theorem GR{f1 f3 f5:Uj}{pv:Uj}{e}{f:N}{te}(ce bo w)(bb:Q (Bx w n #[a,f1,X p k B,f3,A_,f5] 46))(hc:Q (Xf w g i p l))(b4:Q (k=J l))(b3:Q (m=J l))(b1:i<=Z w.1)(hB:bo<=Z w.1)(hi:Q (YY w ce bo P e))(V:Q (j=J e))(cw:j<=4000)(hO:Q (Yy w))(hT:Q (Yb w))(cm:Q (∀aq∈e,1<=aq.1/\aq.1<=13))(co:Q (∀aq∈e,(∀C∈Iw aq,0<=C/\C<m)/\(∀C∈BW aq,0<=C/\C<m)))(ci:1<=f)(cj:f<=3)(cp:Q (∀C∈Id ⟨f,t,T,te⟩,0<=C/\C<m)):
 Sk prog 15 #[Hn n,Sa #[pv,X P j c,H f,H t,H T,H te]] w λq h=>∃C,q=Rt (Sa #[C,H f,H (NN l ⟨f,t,T,te⟩).a,H T,H te])/\Sw (Z w.1) w h/\Sx h (Z w.1) 64 5 C j (ZP<|e.map (ZR l)):=by
 have bp:=Y λW_ (hW:Sw (Z w.1) w W_)=>GM c (Y<|hi.keep (hW.mono hB)) V O (oN hW.4)
 go_in
 go_wp2_with fail
 have cf:(λx9:Ub=>Q (Sw (Z w.1) w x9)/\Bx x9 (Z w.1) #[pv,X P j c,H f,H t,H T,H te] 52/\Bx x9 (Z w.1+1) #[Hq,H 0,H 0,H 0,H 0] 54/\Q (Z x9.1=Z w.1+2)) (D (D w<|Sc #[pv,X P j c,H f,H t,H T,H te] 52) (Sc #[Hq,H 0,H 0,H 0,H 0] 54)):=⟨Y<|Xb (Xb Rf _) _,(Bx.new _ _ _).box _,((by have:=Bx.new (D w<|Sc #[pv,X P j c,H f,H t,H T,H te] 52) #[Hq,H 0,H 0,H 0,H 0] 54;rw[aO]at this;exact this)),(Y sP)⟩;generalize D (D w _) _=b at*;obtain⟨a3,hb,Q_,bx⟩:=cf;have ap:Z w.1<Z b.1:=oN bx.o;have c1:Cl b (Z w.1) 1 (X P j c):=ZY hb R;have c2:Cl b (Z w.1) 2 (H f):=ZY hb R;have c3:Cl b (Z w.1) 3 (H t):=ZY hb R;have c4:Cl b (Z w.1) 4 (H T):=ZY hb R;have c5:Cl b (Z w.1) 5 (H te):=ZY hb R;have HR:=Y Q_;clear hb Q_
 go_cut [5]from 7 to 31 λc5 wx=>∃(o:N)(C:Uj),c5=Hn o/\Q (Pa b wx (Z b.1) o C ⟨f,t,T,te⟩ e)
 case first=>
  have ba:Q (∀W_,Sw (Z b.1) b W_->Sk prog 37 #[X P j c] W_ λq h=>∃s r,q=Rt (X s j r)/\E h (A (Z w.1) 1)=S (X P j c)/\E h (A (Z w.1) 2)=S (H f)/\E h (A (Z w.1) 3)=S (H t)/\E h (A (Z w.1) 4)=S (H T)/\E h (A (Z w.1) 5)=S (H te)/\Z w.1<Z h.1/\Q (Sw (Z W_.1) W_ h)/\Q (Sx h (Z W_.1) 64 5 (X s j r) (J e) (ZP e))):=Y (λW_ hW=>by have hs:=hW.4;refine(bp W_<|a3.trans (hW.mono O)).mono ?_;rintro q u⟨v5,rfl,y,F⟩;have L:=Xg hW y;obtain⟨s,r,rfl⟩:∃s r,v5=X s (J e) r:=(Xv.form (lab:=λ_=>(0,0,0)) (L:=(0,0,0)) ⟨F,λ_ _=>R⟩);rw[<-V.o]at F |-;exact⟨s,r,R,oB L c1 ap,oB L c2 ap,oB L c3 ap,oB L c4 ap,oB L c5 ap,oN L.4,Y y,Y<|by rw[V.o]at F;rw[V.o];exact F⟩)
  have HA:=Y<|ba.o b.drew (dC (Z b.1) b).drew;have a0:Bx (D b<|Sc #[Hq,H 0,H 0,H 0,H 0] 54).drew (Z b.1) #[Hq,H 0,H 0,H 0,H 0] 54:=Bx.new b _ _;have x:=Y ((ba (D b<|Sc #[Hq,H 0,H 0,H 0,H 0] 54).drew ((dC (Z b.1) b).alloc aA _).drew).mono (R':=λq h=>∃s r,q=Rt (X s j r)/\E h (A (Z w.1) 1)=S (X P j c)/\E h (A (Z w.1) 2)=S (H f)/\E h (A (Z w.1) 3)=S (H t)/\E h (A (Z w.1) 4)=S (H T)/\E h (A (Z w.1) 5)=S (H te)/\Z w.1<Z h.1/\(E h (A (Z b.1) 0)=S Hq/\E h (A (Z b.1) 1)=S (H 0)/\E h (A (Z b.1) 2)=S (H 0)/\E h (A (Z b.1) 3)=S (H 0)/\E h (A (Z b.1) 4)=S (H 0)/\∀v,h.frozen? (A (Z b.1) v)=Sn)/\Q (Sw (Z (D b<|Sc #[Hq,H 0,H 0,H 0,H 0] 54).drew.1) (D b<|Sc #[Hq,H 0,H 0,H 0,H 0] 54).drew h)/\Q (Sx h (Z (D b<|Sc #[Hq,H 0,H 0,H 0,H 0] 54).drew.1) 64 5 (X s j r) (J e) (ZP e))) (by rintro q u⟨s,r,rfl,f1,f2,f3,A_,f5,bf,z,Y_⟩;have M_:=a0.keep<|z.5 _ a0.lt;exact⟨s,r,R,f1,f2,f3,A_,f5,bf,⟨ZY M_ R,ZY M_ R,ZY M_ R,ZY M_ R,ZY M_ R,Bx.thaw M_⟩,z,Y_⟩))
  have cx:Z b.1≠Z w.1:=O;have cz:Z w.1≠Z b.1:=O;have bt:=Y a0;clear a0
  go_region_held3 (λh=>E h (A (Z w.1) 1)=S (X P j c)/\E h (A (Z w.1) 2)=S (H f)/\E h (A (Z w.1) 3)=S (H t)/\E h (A (Z w.1) 4)=S (H T)/\E h (A (Z w.1) 5)=S (H te)) (go_keep)
   (first
    |(go_at_call 37;with_reducible refine HA.o.mono ?_;rintro q u⟨s,r,rfl,f1,f2,f3,A_,f5,bf,z,Y_⟩)
    |(go_at_call 37;with_reducible refine x.o.mono ?_;rintro q u⟨s,r,rfl,f1,f2,f3,A_,f5,bf,⟨z0,z1,z2,z3,z4,zz⟩,z,Y_⟩))
  .go_wp2;go_meet;have L:=Xg (dC (Z b.1) b).drew z;exact⟨_,_,R,Y ⟨L.alloc L.4 _,Bx.new _ _ _,World.ownsRow.alloc (w:=u) Y_ _,λq=>by have:=(Y_.lt _ q).2;omega,L.4⟩⟩
  go_wp2;go_meet;have L:=(((dC (Z b.1) b).alloc aA _).drew).trans (z.mono<|by show _<=Z (D b _).1;simp);have M_:=bt.keep<|z.5 _ bt.lt;have cq:Z (D b<|Sc #[Hq,H 0,H 0,H 0,H 0] 54).drew.1=Z b.1+1:=by show Z (D b _).1=_;simp
  have a7:=Y_.o;rw[cq]at a7;have O_:Z b.1<Z b.1+1:=iJ;exact⟨_,_,R,Y ⟨((((L.setCell (p:=A (Z b.1) 0) aA _).setCell (p:=A (Z b.1) 1) aA _).setCell (p:=A (Z b.1) 2) aA _).setCell (p:=A (Z b.1) 3) aA _).setCell (p:=A (Z b.1) 4) aA _,((((M_.set 0<|X s j r).set 1 (H f)).set 2 (H t)).set 3 (H T)).set 4 (H te),Zk (ke (ke (ke (ke (ke a7 (a:=(A (Z b.1) 0)) O_ _) (a:=(A (Z b.1) 1)) O_ _) (a:=(A (Z b.1) 2)) O_ _) (a:=(A (Z b.1) 3)) O_ _) (a:=(A (Z b.1) 4)) O_ _) gX,λq=>by have:=(a7.lt _ q).1;omega,aA⟩⟩
 obtain⟨o,C,rfl,ab⟩:=hcut;obtain⟨s,r,rfl⟩:∃s r,C=X s (J e) r:=Xv.form (lab:=λ_=>(0,0,0)) (L:=(0,0,0)) ⟨ab.3,λ_ _=>R⟩;rw[<-V.o]at ab;have o0:Cl wc o 0 (X s j r):=ZY ab.2 R;clear c1 c2 c3 c4 c5;go_wp2;clear o0
 go_loopw [16] (λbl wr=>∃d:N,d<=j/\bl=H d/\Q (Pa b wr (Z b.1) o (X s j r) ⟨f,t,T,te⟩ ((e.take d).map (ZR l)++e.drop d))) λbl _=>j-(JB bl).toNat
 .exact⟨0,aN,R,by simpa using ab⟩
 obtain⟨d,hj,rfl,x⟩:=hrel;clear ab;have o0:Cl wr o 0 (X s j r):=ZY x.2 R;have J_:=Y<|a3.trans (x.1.mono O);have b6:=x.5;have bd:=x.2.lt;have b5:=bb.lt;by_cases O_:d<j
 .have az:d<J e:=oN V.o
  have cv:(d:I)<j:=O;have cr:=cm _<|aH az;have bi:=co _<|aH az;have HE:Q ((e.take d).map (ZR l)++e.drop d=(e.take d).map (ZR l)++e[d]::e.drop (d+1)):=Y (by rw[gZ az]);have bq:Q ((e.take<|d+1).map (ZR l)++e.drop (d+1)=(e.take d).map (ZR l)++ZR l e[d]::e.drop (d+1)):=Y (by rw[bN az,bG,cK];rfl);have ar:Q (J ((e.take d).map (ZR l))=d):=Y (by rw[bK,dH];omega);have R_:Q (J ((e.take d).map (ZR l)++e.drop d)=j):=Y (by rw[aQ,ar.o,mF];have:=V.o;omega);obtain⟨M,c',he⟩:=Xv.got (lab:=λ_=>(0,0,0)) (L:=(0,0,0)) ⟨x.3,λ_ _=>R⟩ (by rw[R_.o];omega);rw[R_.o]at he;cases he;have be:Xv wr (λ_=>(0,0,0)) (0,0,0) (Z b.1) 64 5 (Hl M j r) j (ZP<|(e.take d).map (ZR l)++e.drop d):=⟨by have:=x.3;rw[R_.o]at this;exact this,λ_ _=>R⟩;have N_:Jk wr M (d*5) e[d]:=by
   obtain⟨g',o',e',_,N_⟩:=Xv.inss (n:=j) (by rw[R_.o];exact be) d (by rw[R_.o];exact O_);cases e';rw[aV]at N_;have e9:((e.take d).map (ZR l)++e.drop d)[d]'(by rw[R_.o];exact O_)=e[d]:=by rw[fN (by rw[ar.o];exact aA),List.getElem_drop];simp only[ar.o,kL,fW]
   rw[e9]at N_;exact N_
  have bv:=Y be;have HI:=Y N_;have a4:=Y<|Iz b3 bi.1 bi.2 N_;have a8:=Y<|Ii l ((e.take d).map (ZR l)) e[d] (e.drop<|d+1);rw[ar.o,<-HE.o,<-bq.o]at a8;have q0:=N_.1;clear be N_ bi;generalize e[d]=b7 at*;obtain⟨K,ck⟩:∃K:N,b7.1=(K:I):=⟨b7.1.toNat,O⟩;rw[ck]at q0 cr a4 a8;have bc:=(bv.blk).1;go_wp2_with fail
  refine(GA q0 O O<|Y (hO.keep J_ hO.1)).mono ?_;rintro q u⟨v5,rfl,y,F⟩;rw[show([(A M<|d*5+1),(A M<|d*5+2),(A M<|d*5+3)]:List Addr)=[d*5+1,d*5+2,d*5+3].map λbm=>(A M bm)from R,rG]at F;obtain⟨a5,c5,rfl,ao⟩:=UO F;rw[bK];have z:=Y y;have ad:=Y<|bb.keep (G (y.5 _<|oN J_.4) (J_.5 _ b5));have a9:=Y (bv.keep λZ_ _ h2 q=>⟨y.5 Z_ h2,q⟩);have L_:=Y<|x.2.keep (y.5 _ bd);have aa:=Y<|hc.keep ((J_.trans<|y.mono (oN J_.4)).mono b1);have ac:=Y (yi (cs:=l) (g:=M) (w:=u) (λv hq=>by obtain⟨a2,S_,h2⟩:=a4 v hq;exact⟨a2,oB y S_ bc.2,h2⟩) (GJ))
  have af:=Y ao;have a6:Q (J (FSx [dB K,aB K,bB K] [d*5+1,d*5+2,d*5+3])<=3):=Y (by cases dB K<;>cases aB K<;>cases bB K<;>simp[FSx]);have ca:=Y<|Ig (dB K) (aB K) (bB K) (d*5);clear y F ao q0;generalize FSx [dB K,aB K,bB K] [d*5+1,d*5+2,d*5+3]=V_ at*;go_wp2_with fail
  with_reducible refine(xu ad O aa b4 O bc.2 aA z.o.4 af (Y R) (oN a6.o) (λv=>a9.o.thaw v) ac).mono ?_
  rintro q w6⟨rfl,rfl⟩;have b8:Q (Pa b (recW l M V_ u) (Z b.1) o (Hl M j r) ⟨f,t,T,te⟩ ((e.take<|d+1).map (ZR l)++e.drop (d+1))):=Y (by
   have cg:M≠o:=λq=>x.4 (by rw[<-q];rfl);have cl:J ((e.take<|d+1).map (ZR l)++e.drop (d+1))=j:=by rw[aQ,bK,dH,mF];have:=V.o;omega
   refine⟨pu l bc.1 V_ (x.1.trans<|z.mono x.1.4) aA,L_.keep (ox l M (λq=>cg q.symm) V_ u),?_,x.4,b6⟩;rw[cl,<-a8.o];exact(a9.recW V_ λv hq=>by have:=ca v hq;rw[iR,R_.o];omega).1)
  clear ad L_ aa ac af o0;generalize recW l M V_ u=W at*;go_wp2;exact⟨⟨d+1,O,gM,b8⟩,SA⟩
 have ch:d=j:=O
 have ct:¬(d:I)<j:=O;have K_:Q (Pa b wr (Z b.1) o (X s j r) ⟨f,t,T,te⟩ (e.map<|ZR l)):=Y (by have:=x.o;rw[ch,V.o,gC,Am,fF]at this;rw[V.o];exact this)
 go_wp2_with fail
 have b0:Q (Va wr o 1 ⟨f,t,T,te⟩):=Y ⟨ZY K_.2 R,ZY K_.2 R,ZY K_.2 R,ZY K_.2 R⟩;refine(tL b0 ci cj<|Y (hT.keep J_ hT.1)).mono ?_;rintro q u⟨v5,rfl,y,F⟩;rw[show([(A o<|1+1)]:List Addr)=[2].map λbm=>(A o bm)from R,rG]at F;obtain⟨a5,c5,rfl,ao⟩:=UO F;rw[bK];have z:=Y y;have ad:=Y<|bb.keep (G (y.5 _<|oN J_.4) (J_.5 _ b5));have L_:=Y<|K_.2.keep (y.5 _ bd);have aa:=Y<|hc.keep ((J_.trans<|y.mono (oN J_.4)).mono b1);have af:=Y ao;have bn:Cl u o 2 (H t):=ZY L_ R;have ac:Q (∀v (cs:v<J (FSx [(f:I) != 1] [2])),∃a2:N,E (recW l o ((FSx [(f:I) != 1] [2]).take v) u) (A o (FSx [(f:I) != 1] [2])[v])=S (H a2)/\a2<J l):=Y (yi (λv hq=>by
  have Q_:=cp.o;unfold Id at Q_;cases hu:((f:I) != 1)with
  |false=>rw[hu]at hq;simp[FSx]at hq
  |true=>
   rw[hu]at hq Q_;have cn:v=2:=by simpa [FSx]using hq
   subst cn;have S_:=Q_ t sP;exact⟨t.toNat,by rw[bn];congr 2;omega,oN b3.o⟩) (by cases ((f:I) != 1)<;>simp[FSx]))
 have X_:Q (Bx (recW l o (FSx [(f:I) != 1] [2]) u) o #[X s j r,H f,H (NN l ⟨f,t,T,te⟩).a,H T,H te] 54):=Y (by
  unfold NN;by_cases S_:(f:I)=1
  .have hu:((f:I) != 1)=Sn:=by simp[S_]
   rw[hu];simp only[aU S_];exact L_
  have hu:((f:I) != 1)=So:=by simp[S_]
  rw[hu];simp only[aM S_];show Bx (Se u.drew (A o 2) (jr l<|E u (A o 2))) o _ _;rw[bn];exact Bx.set (w:=u.drew) L_ 2 (H<|Kp l t))
 have br:Q (Sw (Z b.1) b<|recW l o (FSx [(f:I) != 1] [2]) u):=Y<|pu l b6 _ (K_.1.trans<|z.mono K_.1.4) aA;have cc:Q (Sx (recW l o (FSx [(f:I) != 1] [2]) u) (Z b.1) 64 5 (X s j r) j (ZP<|e.map (ZR l))):=Y (by have Q_:Xv wr (λZ_=>if Z_=o then (1,0,0)else (0,0,0)) (0,0,0) (Z b.1) 64 5 (X s j r) (J (e.map<|ZR l)) (ZP<|e.map (ZR l)):=⟨K_.3,λZ_ q=>aM λv=>K_.4<|by rw[<-v];exact q⟩;have:=(Q_.keep (w':=recW l o (FSx [(f:I) != 1] [2]) u) λZ_ _ h2 q=>⟨G (ox l o (λv=>by rw[aU v]at q;simp at q) _ u) (z.5 Z_ h2),q⟩).1;rw[bK,<-V.o]at this;exact this)
 have a6:Q (J (FSx [(f:I) != 1] [2])<=3):=Y (by cases ((f:I) != 1)<;>simp[FSx]);have cb:=Y<|Bx.thaw L_;clear y F ao bn L_;generalize FSx [(f:I) != 1] [2]=V_ at*;obtain⟨a1,bh⟩:∃a1,(NN l ⟨f,t,T,te⟩).a=a1:=⟨_,R⟩;rw[bh]at X_;have cd:=Y bh;clear bh;go_wp2_with fail
 with_reducible refine(xu ad O aa b4 O bd aA z.o.4 af (Y R) (oN a6.o) cb.o ac).mono ?_
 rintro q w6⟨rfl,rfl⟩;clear ad aa af ac z;generalize recW l o V_ u=W at*;have o0:Cl W o 0 (X s j r):=ZY X_ R;have o1:Cl W o 1 (H f):=ZY X_ R;have o2:Cl W o 2 (H a1):=ZY X_ R;have o3:Cl W o 3 (H T):=ZY X_ R;have o4:Cl W o 4 (H te):=ZY X_ R;have U_:=HR.keep<|br.5 _ HR.lt;have r0:Cl W (Z w.1+1) 0 Hq:=ZY U_ R;have r1:Cl W (Z w.1+1) 1 (H 0):=ZY U_ R;have r2:Cl W (Z w.1+1) 2 (H 0):=ZY U_ R;have r3:Cl W (Z w.1+1) 3 (H 0):=ZY U_ R;have r4:Cl W (Z w.1+1) 4 (H 0):=ZY U_ R;have rz:=Bx.thaw U_;clear U_;go_wp2_with fail
 refine YL (v:=Sa #[X s j r,H f,H a1,H T,H te]) ?_;have al:Z w.1+1<Z b.1:=oN bx.o;have aj:Z w.1<=Z w.1+1:=gX;rw[cd.o];exact⟨_,R,(((((a3.trans<|br.mono O).setCell (p:=A (Z w.1+1) 0) aj _).setCell (p:=A (Z w.1+1) 1) aj _).setCell (p:=A (Z w.1+1) 2) aj _).setCell (p:=A (Z w.1+1) 3) aj _).setCell (p:=A (Z w.1+1) 4) aj _,Zk (ke (ke (ke (ke (ke cc (a:=(A (Z w.1+1) 0)) al _) (a:=(A (Z w.1+1) 1)) al _) (a:=(A (Z w.1+1) 2)) al _) (a:=(A (Z w.1+1) 3)) al _) (a:=(A (Z w.1+1) 4)) al _) O⟩
end Go.Proofs.YtcncjgijikoapaaGreatDoor
