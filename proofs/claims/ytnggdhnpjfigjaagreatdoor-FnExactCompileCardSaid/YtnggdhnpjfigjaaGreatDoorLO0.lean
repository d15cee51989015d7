import Derived.Test.YtnggdhnpjfigjaaGreatDoorSS2
import Derived.Test.YtnggdhnpjfigjaaGreatDoorW18b
import Derived.Test.YtnggdhnpjfigjaaGreatDoorMV0
import Derived.Test.YtnggdhnpjfigjaaGreatDoorAL1
import Derived.Shelf.Strconv.AppendIntPublic10
import Derived.Lib.AppendStr
import Derived.Lib.OthersKept
namespace Go.Proofs.YtnggdhnpjfigjaaGreatDoor
set_option maxHeartbeats 4000000
set_option maxRecDepth 100000
open _root_ renaming List.length->J,Nat->N,Int->I,rfl->R,Bool.true->So,absurd->Sz,List.range->Rg,Array.size->Z,Option.some->S,Bool.false->Sn,Option.none->U
open Go renaming World.cell?->E,World.alloc->D,IntKind.i64->S6,Obj.cells->Sc,Ending.returned->Rt,RowKit.Below->Sw,Calls->Sk,World.ownsRow->Sx,World.setCell->Se,undef->Su
open Value renaming slice->X,int->Si,agg->Sa,bool->Sb,tuple->St,string->Sg
open Go.RowKit Go.Proofs.Tryz Go.Shelf
variable{t T z:I}{n m k B g i j c:N}{w v u:Ub}{a A_:Uj}{p P:Uy}{h H_:Vu}{s:Wa}{l:Wc}{x:Wi}{y:Wo}
def Kp(a:Wc)(v:I):I:=a.getD v.toNat 0
def ZR(a:Wc)(x:Yg):Yg:=⟨x.1,if dB x.1=So then Kp a x.2 else x.2,if aB x.1=So then Kp a x.a else x.a,if bB x.1=So then Kp a x.b else x.b,x.5⟩
def NN(a:Wc)(t:Yj):Yj:=⟨t.1,if t.1=1 then t.a else Kp a t.a,t.3,t.4⟩
def iT(a:Wi)(t:I):Za:=match a[t.toNat]? with|some x=>x.1|none=>[]
def NU(a:Wc)(b:Wi)(p:N)(t:I):Wy:=(E9 (de (AQ b 0 t) (p:I)) (iT b t)).map λq=>⟨Kp a q.1,Kp a q.2⟩
def NL(a:Wc)(b:Wi)(p:N)(t:I):Vr:=dp<|NU a b p t
def ah(a:Wc)(b:Wi)(p:N)(t:I)(m:N):I×List ag:=if NL a b p t=[]then (t,[])else ((m:I),[⟨NL a b p t,⟨1,0,t,0⟩⟩])
def Nk(a:Wc)(c:Wi)(b:N)(x:Xe)(m:N):ag×List ag :=
 if x.3.1=1 then (⟨x.2.map (ZR a)++NL a c b x.3.3,NN a x.3⟩,[])
 else if x.3.1=2 then (⟨x.2.map<|ZR a,⟨x.3.1,Kp a x.3.a,(ah a c b x.3.3 m).1,(ah a c b x.3.4<|m+J (ah a c b x.3.3 m).2).1⟩⟩,(ah a c b x.3.3 m).2++(ah a c b x.3.4<|m+J (ah a c b x.3.3 m).2).2)
 else (⟨x.2.map<|ZR a,NN a x.3⟩,[])
def ae(c:List I)(a:List Xe):N->List ag×List ag
 |0=>([],[])
 |b+1=>match a[b]? with
  |none=>ae c a b
  |some x=>((ae c a b).1++[(Nk c a b x<|J a+J (ae c a b).2).1],(ae c a b).2++(Nk c a b x<|J a+J (ae c a b).2).2)
def NK(b:Wc)(a:Wi):List ag:=(ae b a (J a)).1++(ae b a (J a)).2
theorem ou(c:Wc)(a:Wi)(b:N)(h:b<J a):ae c a (b+1)=((ae c a b).1++[(Nk c a b a[b] (J a+J (ae c a b).2)).1],(ae c a b).2++(Nk c a b a[b] (J a+J (ae c a b).2)).2):=by
 rw[ae,aC h]
theorem ll(c:Wc)(a:Wi):∀b,b<=J a->J (ae c a b).1=b
 |0,_=>R
 |b+1,h=>by rw[ou c a b O,aQ,ll c a b O];rfl
theorem m6(a b p t m):J (ah a b p t m).2<=1:=by
 unfold ah;split<;>simp
theorem Iu(a c b x m):J (Nk a c b x m).2<=2:=by
 unfold Nk;split;·simp
 split
 .have d:=m6 a c b x.3.3 m;have e:=m6 a c b x.3.4<|m+J (ah a c b x.3.3 m).2;rw[aQ];omega
 simp
theorem oz(c:Wc)(a:Wi):∀b,b<=J a->J (ae c a b).2<=2*b
 |0,_=>by simp[ae]
 |b+1,h=>by
  have d:=oz c a b O;have e:=Iu c a b a[b] (J a+J (ae c a b).2);rw[ou c a b O,aQ];omega
theorem pD(h:n<J x):iT x (n:I)=x[n].1:=by
 unfold iT;rw[dM,aC h]
theorem zT{c:Type}(f:N->List c):∀(n i:N),i<n->(∀j,j<n->j≠i->f j=[])->(Rg n).flatMap f=f i
 |0,i,h,_=>Sz h<|Nat.not_lt_zero _
 |n+1,i,h,hf=>by
  rw[dN,eZ];by_cases e:i=n
  .subst e;have:(Rg i).flatMap f=[]:=List.flatMap_eq_nil_iff.2 λj a=>hf j (oN<|bE.1 a) (oN<|bE.1 a);rw[this];simp
  rw[zT f n i O λj d b=>hf j O b];have:f n=[]:=hf n O λq=>e q.symm;simp[this]
theorem Kh(e:m<J x)(i:(n:I)∈AQ x 0 (m:I)):G2 x (n:I) (m:I)=(E9 (de (AQ x 0 (m:I)) (n:I)) (iT x (m:I))).map (λq=>q.2):=by
 have c:=pC i;have d:=yq c;have g:=r5 (m:I) x 0;rw[pD e];unfold G2;rw[dM,aC e];dsimp only;by_cases b:x[m].1=[];·rw[aU b,b];rfl
 rw[aM b];generalize AQ x 0 (m:I)=a at*;rw[zT _ (J a) (de a (n:I)) c λj f h=>?_]
 .rw[aU<|by rw[bF,aC c,d];rfl];simp[E9]
 rw[aM λq=>h ?_];rw[bF,aC f]at q;exact(List.getElem_inj g).1 (show a[j]=a[de a (n:I)] by rw[d];exact q)
def Pf(w a:Ub)(e d b c i:I):Prop:=Sw (Z w.1) w a/\Bx a (Z w.1) #[Si S6 e,Si S6 d,Si S6 b,Si S6 c,Si S6 i] 59/\Bx a (Z w.1+1) #[Si S6 0,Si S6 0,Si S6 0,Si S6 0,Si S6 0] 59
theorem jq(h:Xf w n m p l){v:I}(f:0<=v)(g:v<J l):∃b o k,v=((k:N):I)/\k<J l/\p=S (A b o)/\(n<=b/\b<m)/\E w (A b<|o+k)=S (H<|Kp l v):=by
 obtain⟨k,rfl⟩:∃k:N,v=(k:I):=⟨v.toNat,O⟩;have a:k<J l:=O;let⟨b,o,e,c,d⟩:=h k a;refine⟨b,o,k,R,a,e,c,?_⟩;unfold Kp;rw[dM,bF,aC a];exact d
theorem yL{x:Yg}(v:Q (Xf w k B p l))(o:Q (n=J l))(u:B<=Z w.1)(y:Q (dB x.1=So->0<=x.2/\x.2<n))(ha:Q (aB x.1=So->0<=x.a/\x.a<n))(L:Q (bB x.1=So->0<=x.b/\x.b<n)):
 Sk prog 48 #[Sa #[H x.1,H x.2,H x.a,H x.b,H x.5],X p n m] w λt U_=>t=Rt (Sa #[H (ZR l x).1,H (ZR l x).2,H (ZR l x).a,H (ZR l x).b,H (ZR l x).5])/\Sw (Z w.1) w U_:=by
 let⟨b,c,d,e,i⟩:=x;dsimp only at*
 go_in
 go_wp2_with fail
 have a:Q (Pf w (D (D w<|.cells #[H b,H c,H d,H e,H i] 59) (Sc #[H 0,H 0,H 0,H 0,H 0] 59)) b c d e i):=Y ⟨Xb (Xb Rf _) _,(Bx.new _ _ _).box _,by have:=Bx.new (D w<|.cells #[H b,H c,H d,H e,H i] 59) #[H 0,H 0,H 0,H 0,H 0] 59;rw[aO]at this;exact this⟩;generalize D (D w _) _=X_ at*;refine(U9).mono ?_;rintro t r⟨rfl,q⟩;subst q;rw[xj]
 go_upto_if 7 with fail
 go_cut []from 5 to 32 λs=>Q<|Pf w s b (if dB b=So then Kp l c else c) d e i
 case first=>
  cases hB0:dB b with
  |true=>
   obtain⟨z,M,h,g,F,rfl,C,P⟩:=jq (v.keep<|a.1.mono u) (y hB0).1 (oP ((y hB0).2) o.o);have T:(h:I)<(n:I):=oN o.o;have V:(0:I)<=(h:I):=O;have W:E r (A (Z w.1) 1)=S (H h):=by rw[<-g];exact Bx.cell a.2.1 R
   have K:=Bx.thaw a.2.1;have f:=Y hB0;clear hB0;have y_:=Y g;clear g;go_wp2;go_meet;rw[show(if dB b=So then Kp l c else c)=Kp l c from aU f.o];exact Y ⟨a.1.setCell (p:=A (Z w.1) 1) aA _,a.2.1.set 1 _,a.2.2.other O⟩
  |false=>
   have f:=Y hB0;clear hB0;go_wp2;go_meet;rw[show(if dB b=So then Kp l c else c)=c from aM (by rw[f.o];simp)];exact a
 have a:=hcut;clear hcut;generalize wc=V_ at*;have L_:Cl V_ (Z w.1) 0 (H b):=Bx.cell a.2.1 R;go_wp2_with fail
 refine(U9).mono ?_;rintro t r⟨rfl,q⟩;subst q;rw[xh]
 go_upto_if 16 with fail
 go_cut []from 5 to 32 λs=>Q<|Pf w s b (if dB b=So then Kp l c else c) (if aB b=So then Kp l d else d) e i
 case first=>
  cases hB1:aB b with
  |true=>
   obtain⟨z,M,h,g,F,rfl,C,P⟩:=jq (v.keep<|a.1.mono u) (ha hB1).1 (oP ((ha hB1).2) o.o);have T:(h:I)<(n:I):=oN o.o;have V:(0:I)<=(h:I):=O;have W:E r (A (Z w.1) 2)=S (H h):=by rw[<-g];exact Bx.cell a.2.1 R
   have K:=Bx.thaw a.2.1;have f:=Y hB1;clear hB1;have y_:=Y g;clear g;go_wp2;go_meet;rw[show(if aB b=So then Kp l d else d)=Kp l d from aU f.o];exact Y ⟨a.1.setCell (p:=A (Z w.1) 2) aA _,a.2.1.set 2 _,a.2.2.other O⟩
  |false=>
   have f:=Y hB1;clear hB1;go_wp2;go_meet;rw[show(if aB b=So then Kp l d else d)=d from aM (by rw[f.o];simp)];exact a
 have a:=hcut;clear hcut;generalize wc=W_ at*;have L_:Cl W_ (Z w.1) 0 (H b):=Bx.cell a.2.1 R;go_wp2_with fail
 refine(U9).mono ?_;rintro t r⟨rfl,q⟩;subst q;rw[xg]
 go_upto_if 25 with fail
 go_cut []from 5 to 32 λs=>Q<|Pf w s b (if dB b=So then Kp l c else c) (if aB b=So then Kp l d else d) (if bB b=So then Kp l e else e) i
 case first=>
  cases hB2:bB b with
  |true=>
   obtain⟨z,M,h,g,F,rfl,C,P⟩:=jq (v.keep<|a.1.mono u) (L hB2).1 (oP ((L hB2).2) o.o);have T:(h:I)<(n:I):=oN o.o;have V:(0:I)<=(h:I):=O;have W:E r (A (Z w.1) 3)=S (H h):=by rw[<-g];exact Bx.cell a.2.1 R
   have K:=Bx.thaw a.2.1;have f:=Y hB2;clear hB2;have y_:=Y g;clear g;go_wp2;go_meet;rw[show(if bB b=So then Kp l e else e)=Kp l e from aU f.o];exact Y ⟨a.1.setCell (p:=A (Z w.1) 3) aA _,a.2.1.set 3 _,a.2.2.other O⟩
  |false=>
   have f:=Y hB2;clear hB2;go_wp2;go_meet;rw[show(if bB b=So then Kp l e else e)=e from aM (by rw[f.o];simp)];exact a
 have a:=hcut;clear hcut;generalize wc=j at*;have L_:Cl j (Z w.1) 0 (H b):=Bx.cell a.2.1 R;have Y_:Cl j (Z w.1) 1 (H<|if dB b=So then Kp l c else c):=Bx.cell a.2.1 R;have Z_:Cl j (Z w.1) 2 (H<|if aB b=So then Kp l d else d):=Bx.cell a.2.1 R;have z3:Cl j (Z w.1) 3 (H<|if bB b=So then Kp l e else e):=Bx.cell a.2.1 R;have z4:Cl j (Z w.1) 4 (H i):=Bx.cell a.2.1 R;have P_:Cl j (Z w.1+1) 0 (H 0):=Bx.cell a.2.2 R;have Q_:Cl j (Z w.1+1) 1 (H 0):=Bx.cell a.2.2 R;have R_:Cl j (Z w.1+1) 2 (H 0):=Bx.cell a.2.2 R;have S_:Cl j (Z w.1+1) 3 (H 0):=Bx.cell a.2.2 R;have T_:Cl j (Z w.1+1) 4 (H 0):=Bx.cell a.2.2 R;have rz:=Bx.thaw a.2.2;have M_:Q (ZR l ⟨b,c,d,e,i⟩=⟨b,(if dB b=So then Kp l c else c),(if aB b=So then Kp l d else d),(if bB b=So then Kp l e else e),i⟩):=Y R;generalize (if dB b=So then Kp l c else c)=d1 at*;generalize (if aB b=So then Kp l d else d)=N_ at*;generalize (if bB b=So then Kp l e else e)=O_ at*;go_wp2;rw[M_.o];refine cC (v:=Sa #[H b,H d1,H N_,H O_,H i]) (by simp[results,results48,go_sem,P_,Q_,R_,S_,T_]) R ⟨R,?_⟩;exact((((a.1.setCell (p:=A (Z w.1+1) 0) sP _).setCell (p:=A (Z w.1+1) 1) sP _).setCell (p:=A (Z w.1+1) 2) sP _).setCell (p:=A (Z w.1+1) 3) sP _).setCell (p:=A (Z w.1+1) 4) sP _
theorem Mh{a:Wy}(ha:Q (gj w m k p a))(h:Q (n=J a))(hn:n<=1048576)(X_:k<=Z w.1):
 Sk prog 96 #[X p n c] w λj M=>∃v,j=Rt v/\v≠Hq/\Sw (Z w.1) w M/\Sx M (Z w.1) 59 5 v (J (dp a)) (ZP<|dp a):=by
 have i:=Y<|I4 c ha h hn X_;cases hg:bw a with
 |false=>
  have s:Q (dp a=[]):=Y (by unfold dp;rw[hg];rfl);rw[hg]at i;clear hg
  go_in
  go_wp2_with (go_at_call 148;refine i.mono ?_;rintro j y⟨rfl,e⟩)
  go_ret;refine⟨_,R,sP,Xg e<|Xb Rf _,?_⟩;rw[s.o];exact Zk (m7 y) e.4
 |true=>
  let⟨W_,P⟩:=rK hg;have s:Q (dp a=ax (2*J (bu a)) (bu a)):=Y (by unfold dp;rw[aU hg]);have U_:=Y P.start.1;have a0:n<=64:=oN h.o;rw[hg]at i;clear hg P W_;let⟨j0,Z_,aa,ab,ac⟩:=fX RA
  go_in
  go_wp2_with (go_at_call 148;refine i.mono ?_;rintro j y⟨rfl,e⟩;have N_:=Y e;have s1:=e.4;clear e)
  go_loopw [3,4] (λv u wr=>∃q:N,q<=n/\u=H q/\Q (Sw (Z w.1) w wr)/\Q (Sx wr (Z w.1) 158 2 v (J (bu<|a.take q)) (Ng<|bu (a.take q)))) λ_ u _=>n-(intOf u).toNat
  case atStart=>exact⟨0,aN,R,Y<|N_.alloc s1 _,Y<|by rw[lK];exact Zk (sJ y) s1⟩
  obtain⟨q,hq,rfl,b,d⟩:=hrel;have a2:=b.4;by_cases az:q<n
  .have K:q<J a:=oN h.o
   obtain⟨ao,a3,rfl,ap,B,C⟩:=ha q K;have e0:=G (XU b O) B;have e1:=G (XU b O) C;have g:Q (bu (a.take<|q+1)=bu (a.take q)++(if a[q].1=a[q].2 then []else [a[q]])):=Y (by
    unfold bu;rw[bN K,eU];congr 1;by_cases l:a[q].1=a[q].2;·rw[aU l,List.filter_cons_of_neg<|by simp[l]];rfl
    rw[aM l,List.filter_cons_of_pos<|by simpa using l];rfl)
   have z:Q (J (bu<|a.take q)<=64):=Y (aJ (fJ _ _) SB);clear B C;generalize hm:a[q]=al at*;let⟨x,t⟩:=al;dsimp only at*;clear hm;generalize bu (a.take q)=f at*;by_cases o:x=t
   .rw[aU o,fF]at g;subst o;go_wp2;go_region;go_wp2;exact⟨⟨q+1,O,gM,Y b.drew,Y<|by rw[g.o];exact d⟩,SA⟩
   rw[aM o]at g;have aq:(x==t)=Sn:=by simpa using o
   go_wp2;go_region;go_wp2_with (at_builtin;refine bT _ R _ _ 156 R (Z w.1) 158 j0 (Sa #[H 0,H 0]) 2 16 underlying156 Z_ aa ab ac R vY _ _ _ R (World.ownsRow.alloc (w:=wr.drew) d _) (A (Z wr.1) 0) 1 1 [H x,H t] R R ?c1 ?c2 ?c3 ?c4 ?c5 ?_)
   case c1=>exact ng wr.drew
   case c2=>intro u L;simp at L;obtain rfl|rfl:=L<;>rfl
   case c3=>have:=z.o;unfold maxLen;omega
   case c4=>have:=z.o;omega
   case c5=>simp;omega
   intro v1 w2 T F ad Y_;have S_:Q (Sx w2 (Z w.1) 158 2 v1 (J (bu<|a.take (q+1))) (Ng<|bu (a.take<|q+1))):=Y (by
    rw[g.o,nf,aQ];exact T)
   have O_:=Y (Xy ((b.drew).alloc (by show Z w.1<=Z wr.1;omega) _) F (World.ownsRow.alloc (w:=wr.drew) d _) aA SB);clear T F ad Y_ d b g;go_wp2;exact⟨⟨q+1,O,gM,O_,S_⟩,SA⟩
  have a1:q=n:=O;have V:=Y (by have:=d.o;rwa[aW<|oN h.o]at this);have aj:J (bu a)<=64:=aJ (fJ _ _) (oN h.o);clear d;generalize bu a=f at*;obtain⟨V_,k4,af,-,ar,W⟩:=m9 V;have Q_:=Y W;subst af;clear W V;go_wp2_with fail
  have r:=Lt (2*J f) V_ (J f) k4 f _ _ wr Q_ (Y R) U_ aj O aA;rw[show((2*J f:N):I)=2*(J f:I) by omega]at r;refine r.mono ?_;rintro j w7⟨v7,rfl,H_,D_,I_⟩;have T_:=Y I_;have P_:=Y<|Xg b D_;have R_:=Y H_;clear I_ D_ H_ r;go_wp2;go_ret;refine⟨_,R,R_,P_,?_⟩;rw[s.o];exact Zk T_ O
theorem ym(e:Jy n x)(a:k<J x)(g:(m:I)∈AQ x 0 (k:I)):∀q∈E9 (de (AQ x 0 (k:I)) (m:I)) (iT x (k:I)),(0<=q.1/\q.1<n)/\(0<=q.2/\q.2<n):=by
 intro q hq;rw[pD a]at hq;unfold E9 at hq;obtain⟨h,c,rfl⟩:=aY.1 hq;have b:=e.9 k a h c;have f:=pC g;refine⟨e.8 _ (aH a) h c,?_⟩;have d:de (AQ x 0 (k:I)) (m:I)<J h.2:=by rw[b.1];exact f
 rw[bF,aC d];exact b.2 _<|aH d
theorem sj(c:N)(cc:N){b t:N}(ha:Q (Xp w k B p x))(hx:Q (m=J x))(hB:B<=Z w.1)(ho:Q (Jy n x))(ck:Q (∀ct∈x,J ct.1<=1048576))(W:Q (Xf w i j P l))(L:Q (g=J l))(a5:Q (g=n))(a2:j<=Z w.1)(cn:t<m)(hp:Q ((b:I)∈AQ x 0 (t:I))):
 Sk prog 49 #[Sa #[H n,X p m c],X P g cc,H b,H t] w λe h=>∃y,e=Rt y/\y≠Hq/\Sw (Z w.1) w h/\Sx h (Z w.1) 59 5 y (J (NL l x b (t:I))) (ZP<|NL l x b (t:I)):=by
 obtain⟨i0,ch,cp,cr,cs⟩:=fX RA;have K:t<J x:=oN hx.o;have a0:=Y<|ym ho K hp;have S_:=Y<|Kh K hp;have V_:Q (NU l x b (t:I)=(E9 (de (AQ x 0 (t:I)) (b:I)) (iT x (t:I))).map λr=>⟨Kp l r.1,Kp l r.2⟩):=Y R;have F:Q (E9 (de (AQ x 0 (t:I)) (b:I)) (iT x (t:I))=E9 (de (AQ x 0 (t:I)) (b:I)) x[t].1):=Y (by rw[pD K]);have bp:Q (NL l x b (t:I)=dp (NU l x b (t:I))):=Y R;have az:=Y<|ck.o _ (aH K)
 go_in
 go_wp2_with fail
 have HA:=Y<|ha.keep (Below.alloc (Below.refl B w) hB (Sc #[H n,X p m c] 40));refine(tY c (b:I) HA hx SB ho cn).mono ?_;rintro e d⟨ad,c',rfl,I_,H_⟩;rw[aO]at I_ H_;have af:=Y (Xg (Xb Rf _) (by rw[aO];exact I_));have al:Q (Bx d (Z w.1) #[H n,X p m c] 40):=Y<|(Bx.new w _ _).keep (I_.5 _ O);obtain⟨T,hT⟩:∃T,T=E9 (de (AQ x 0 (t:I)) (b:I)) (iT x (t:I)):=⟨_,R⟩;rw[<-hT]at a0 S_ V_ F;rw[S_.o]at H_ |-;rw[bK]at |-;obtain⟨f,N_⟩:∃f,f=J T:=⟨_,R⟩;have ci:f<=1048576:=by rw[N_,F.o];have:=az.o;simpa [E9]using this
 rw[<-N_];have HM:=Y N_;have bn:=Y H_;have bh:=al.lt;clear H_ hT N_ I_ HA S_ az;go_wp2
 go_loopw [10,11] (λy ac wr=>∃a:N,a<=f/\ac=H a/\Q (Sw (Z d.1) d wr)/\Q (Sx wr (Z d.1) 158 2 y (J ((NU l x b (t:I)).take a)) (Ng<|(NU l x b (t:I)).take a))/\Q (y≠Hq)) λ_ ac _=>f-(intOf ac).toNat
 case atStart=>exact⟨0,aN,R,Y<|Xb Rf _,Y (by
  have:=eI (base:=Z d.1) (e:=158) (size:=2) d #[] 0 aA sP R;exact this),Y sP⟩
 obtain⟨a,hj,rfl,o,M,HV⟩:=hrel;have z:Q (J (NU l x b (t:I))=f):=Y (by rw[V_.o,bK];exact HM.symm);by_cases df:a<f
 .have M_:a<J T:=oN HM.o;have aa:=a0 _<|aH M_;have R_:=Y<|Xg af o;obtain⟨G_,q,rfl,⟨_,cx⟩,ce⟩:=ha.keep (R_.mono hB) t K;obtain⟨pa,pc,ia,ic,e0,_,_,bf,_⟩:=ce;have ba:a<J x[t].1:=by have:=F.o;rw[this]at M_;simpa [E9]using M_
  obtain⟨pb,po,rfl,⟨_,dj⟩,cf⟩:=bf a ba;obtain⟨pq,pr,X_,cl,cm⟩:=cf;clear cl cm;have a8:x[t].1[a].1=T[a].1:=by simp[F.o,E9]
  rw[a8]at X_;obtain⟨ab,ao,Y_,⟨_,b4⟩,K_⟩:=bn a (by simpa using M_);injection Y_ with Y_;subst Y_;rw[cM]at K_;have U_:Q ((NU l x b (t:I)).take (a+1)=(NU l x b (t:I)).take a++[⟨Kp l T[a].1,Kp l T[a].2⟩]):=Y (by
   rw[bN<|oN z.o];congr 1;simp[V_.o])
  have v:Q (J ((NU l x b (t:I)).take a)=a):=Y (by rw[dH,z.o];omega);obtain⟨W_,co,O_,bi,da,rfl,cz,a6⟩:=jq (W.keep<|R_.mono a2) aa.1.1 (oP L.o a5.o);obtain⟨cv,cw,Q_,bl,dc,Z_,c6,a7⟩:=jq (W.keep<|R_.mono a2) aa.2.1 (oP L.o a5.o);injection Z_ with Z_;injection Z_ with b8 cd;subst b8 cd;rw[bi]at X_ a6 U_;rw[bl]at K_ a7 U_;have db:(O_:I)<(g:I):=oN L.o;have dd:(Q_:I)<(g:I):=oN L.o
  have dk:(a:I)<((J x[t].1:N):I):=O;have c9:(a:I)<(f:I):=O;have dl:(t:I)<(m:I):=O;have ca:=G (XU o O) K_;have f1:Cl wr (Z w.1) 1 (Hm G_ q m c):=G (o.cell (p:=A (Z w.1) 1) bh) (Bx.cell al R);have b7:=o.4;have dn:Z w.1<Z wr.1:=O;have b6:G_<Z d.1:=O;have cj:pb<Z d.1:=O;have a4:W_<Z d.1:=O;obtain⟨u,C,V⟩:∃u C,u10=X u (J ((NU l x b (t:I)).take a)) C:=by
   obtain⟨e,a1,_⟩|⟨u,C,e,_⟩:=Vc M;·exact Sz e HV
   exact⟨_,_,e⟩
  rw[v.o]at V;subst V;clear a8 ba bf K_;generalize J x[t].1=pl at*;generalize Kp l (O_:I)=z1 at*;generalize Kp l (Q_:I)=z2 at*;clear bi bl aa;go_wp2;refine Y7 (λh=>E h (A (Z w.1) 1)=S (Hm G_ q m c)/\E h (A G_<|q+t*6)=S (Hm pb po pl pc)/\E h (A pb<|po+a*2)=S (H O_)/\E h (A W_<|co+O_)=S (H z1)/\E h (A ab<|ao+a)=S (H Q_)/\E h (A W_<|co+Q_)=S (H z2)) λhHeld=>?_;refine Xn 0 ?_;refine Xn 1 ?_;refine Xn 2 ?_;refine Xn 3 ?_;refine Xn 4 ?_;refine Xn 5 ?_;refine Xn 6 ?_;refine Xn 7 ?_;refine Xn 8 ?_;refine Xn 9 ?_;refine Xn 10 ?_;refine Xn 11 ?_;refine Xn 12 ?_;refine Xn 13 ?_;refine Xn 14 ?_;refine Xn 15 ?_;refine Xn 16 ?_;refine Xn 17 ?_;refine Xn 18 ?_;refine Xn 19 ?_;refine Xn 20 ?_;refine Xn 21 ?_;refine Xs 22 λb0 hK=>?_;go_simp;refine hK _ _ kP λhHeld=>?_;clear hK;refine Xs 23 λb0 hK=>?_;refine d6 R _ _ 156 R (Z d.1) 158 i0 (Sa #[H 0,H 0]) 2 16 underlying156 ch cp cr cs R vY (X u a C) a (Ng<|(NU l x b (t:I)).take a) R ?s1 (A (Z wr.1) 0) 1 1 [H z1,H z2] R R ?s2 ?s3 ?s4 ?s5 ?s6 ?_
  case s1=>rw[<-v.o];exact(World.ownsRow.alloc (w:=wr.drew) (by rw[v.o];have:=M.o;rw[v.o]at this;exact this) _)
  case s2=>exact ng _
  case s3=>intro ds hu;simp at hu;obtain rfl|rfl:=hu<;>rfl
  case s4=>unfold maxLen;omega
  case s5=>omega
  case s6=>simp;omega
  intro v8 w8 be a9 bc b5;have ar:Q (Sx (D wr.drew<|.cells #[H z1,H z2] 158) (Z d.1) 158 2 (X u a C) a (Ng<|(NU l x b (t:I)).take a)):=Y (World.ownsRow.alloc (w:=wr.drew) (by have:=M.o;rw[v.o]at this;exact this) _);have aj:=Y (Xy (Below.alloc o.drew (show Z d.1<=Z wr.1 from b7) _) a9 ar aA SB);have bt:Q (Sx w8 (Z d.1) 158 2 v8 (J ((NU l x b (t:I)).take (a+1))) (Ng<|(NU l x b (t:I)).take (a+1))):=Y (by
   rw[U_.o,nf,aQ,v.o];exact be)
  have bx:Q (v8≠Hq):=Y (λe=>by have:=(bc.1 e).2;omega);have s:∀r q,r<Z d.1->E w8 (A r q)=E wr (A r q):=λr q hq=>oB aj (o.cell (p:=A r q) hq).symm hq;refine hK _ _ ⟨G (s _ _ bh) f1,G (s _ _ b6) e0,G (s _ _ cj) X_,G (s _ _ a4) a6,G (s _ _ b4) ca,G (s _ _ a4) a7⟩ λhHeld=>?_;clear hK be a9 bc b5 s ar
  try simp only[xX]
  refine Xn 24 ?_;refine Yq ?_;clear hHeld;go_wp2;exact⟨⟨a+1,O,gM,aj,bt,bx⟩,SA⟩
 have HE:Q ((NU l x b (t:I)).take a=NU l x b (t:I)):=Y (aW<|by rw[z.o];omega);have ap:=M;rw[HE.o]at ap;obtain⟨aq,cq,V,_,_,bb⟩:=m9 ap;rw[z.o]at V;have di:a=f:=O;have bq:=Y bb;subst V;have c7:¬(a:I)<(f:I):=O;clear bb M;go_wp2_with fail
 refine(Mh bq (Y z.symm) ci aA).mono ?_;rintro e w5⟨v5,rfl,bm,a3,bd⟩;have bo:=Y<|Xg (Xg af o) a3;have br:Q (Sx w5 (Z w.1) 59 5 v5 (J (NL l x b (t:I))) (ZP<|NL l x b (t:I))):=Y (by
  rw[bp.o];obtain⟨hl,a1|⟨u,b1,b3,e,hg,hh,W⟩⟩:=bd;·exact⟨hl,bC a1⟩
  have:=o.4
  exact⟨hl,aZ ⟨u,b1,b3,e,O,hh,W⟩⟩)
 have bv:=Y bm;clear a3 bd bm;go_wp2;go_ret;exact⟨_,R,bv,bo,br⟩
section
def Nf(i:Uj)(t:Yj):Wo:=[i,Si S6 t.1,Si S6 t.a,Si S6 t.3,Si S6 t.4]
def NH(iv:Vu)(xs:List ag):Wo:=Yu (λi x=>Nf (iv i) x.2) 0 xs
theorem Hx{iv:Vu}{xs:List ag}(x:ag):NH iv (xs++[x])=NH iv xs++Nf (iv (J xs)) x.2:=by
 unfold NH;rw[Zo,aV]
theorem rQ{iv jv:Vu}{xs:List ag}(h:∀i,i<J xs->iv i=jv i):NH iv xs=NH jv xs:=by
 unfold NH;have e:∀(a:List ag)(k:N),(∀i,i<J a->iv (k+i)=jv (k+i))->Yu (λi x=>Nf (iv i) x.2) k a=Yu (λi x=>Nf (jv i) x.2) k a:=by
  intro a
  induction a with
  |nil=>intro k _;rfl
  |cons y r d=>
   intro k c;show Nf (iv k) y.2++Yu _ (k+1) r=Nf (jv k) y.2++Yu _ (k+1) r;rw[show iv k=jv k from c 0 sP,d (k+1) λi b=>by have:=c (i+1) SJ;rwa[show k+(i+1)=k+1+i by omega]at this]
 exact e xs 0 λi b=>by rw[aV];exact h i b
theorem pE(iv:Vu)(xs:List ag):J (NH iv xs)=J xs*5:=Zn (sz:=5) (λ_ _=>R) _ _
variable {w w': Ub} {lab lab': N -> N×N×N} {base: N} {ok: N -> Prop}
theorem Xv.fresh{L:N×N×N}{t g n:N}{v:Uj}{d:Wo}(a:Sw (Z w.1) w w')(c:Sx w' (Z w.1) t g v n d)(s:base<=Z w.1)(p:∀b,Z w.1<=b->lab b=(0,0,0)):
 ∃lab',Xv w' lab' L base t g v n d/\XW w w' lab lab' base (λ_=>True):=by
 refine⟨λb=>if v.ownBlock=S b then L else lab b,⟨?_,λb e=>aU e⟩,a.4,λb r l _=>⟨a.5 b l,aM λe=>?_⟩,λ_ b m=>G (aM λe=>?_) (p b<|aJ a.4 m)⟩
 .obtain⟨f,k|⟨j,h,i,e,u,q,o⟩⟩:=c;·exact⟨f,bC k⟩
  exact⟨f,aZ ⟨j,h,i,e,O,q,o⟩⟩
 .have:=(c.lt b e).1;omega
 have:=(c.lt b e).2;omega
structure Nh(w:Ub)(lab:N->N×N×N)(base:N)(v:Uj)(K J_:N)(xs:List ag)(iv:Vu):Prop where
 blks:Xv w lab (K,0,0) base 56 5 v (J xs) (NH iv xs)
 ins:∀i (h:i<J xs),Xv w lab (J_,i,0) base 59 5 (iv i) (J xs[i].1) (ZP xs[i].1)
variable {v v': Uj} {K J_: N} {xs: List ag} {iv: N -> Uj}
theorem Nh.nil:Nh w lab base Hq K J_ [] iv:=⟨⟨dA,λb e=>by cases e⟩,λi h=>Sz h<|Nat.not_lt_zero _⟩
theorem Nh.sp(h:Nh w lab base v K J_ xs iv)(k:XW w w' lab lab' base ok)(d:∀b,lab b=(K,0,0)->ok b)(c:∀b i,i<J xs->lab b=(J_,i,0)->ok b):Nh w' lab' base v K J_ xs iv :=
 ⟨h.1.sp k d,λi a=>(h.2 i a).sp k λb e=>c b i a e⟩
theorem Nh.push(h:Nh w lab base v K J_ xs iv)(g:K≠J_)(x:ag){q:Uj}(hq:Xv w lab (J_,J xs,0) base 59 5 q (J x.1) (ZP x.1))(l:w.grownBy w' v.ownBlock)(m:Sx w' base 56 5 v' (J xs+1) (NH iv xs++Nf q x.2))(j:v'.ownBlock=v.ownBlock\/v'.ownBlock=S (Z w.1))(k:∀b,Z w.1<=b->lab b=(0,0,0)):
 ∃lab',Nh w' lab' base v' K J_ (xs++[x]) (λi=>if i=J xs then q else iv i)/\XW w w' lab lab' base (λb=>lab b≠(K,0,0)):=by
 let⟨lab',n,a⟩:=h.1.grow l m j k;have f:∀i b,lab b=(J_,i,0)->lab b≠(K,0,0):=λi b e q=>g (by rw[e]at q;injection q with q;exact q.symm);refine⟨lab',⟨?_,λi c=>?_⟩,a⟩
 .have e:NH (λi=>if i=J xs then q else iv i) (xs++[x])=NH iv xs++Nf q x.2:=by
   rw[Hx,aU R,rQ (jv:=iv) λi c=>aM O]
  rw[e,aQ,List.length_singleton];exact n
 by_cases e:i=J xs
 .subst e;rw[aU R];have e2:(xs++[x])[J xs]=x:=sP;rw[e2];exact hq.sp a λb e=>f _ b e
 rw[aM e];have d:i<J xs:=by rw[aQ,List.length_singleton]at c;omega
 rw[fA d];exact(h.2 i d).sp a λb e=>f _ b e
theorem lq{g n c i:N}(h:Xv w lab (K,0,0) base 56 5 (Hl g n c) n (NH iv xs))(a:i<J xs){q:N}{u:Uj}(hq:q<5)(b:(Nf (iv i) xs[i].2)[q]?=S u):E w (A g<|i*5+q)=S u:=h.cell (by
 unfold NH;rw[Xz (sz:=5) (λ_ _=>R) 0 xs i a q hq,aV];exact b)
theorem rH:∀(a:Vr)(k:N),ZP a=Yu (λ_ x=>[Si S6 x.1,Si S6 x.2,Si S6 x.a,Si S6 x.b,Si S6 x.5]) k a
 |[],_=>R
 |y::r,k=>by rw[rM,rH r<|k+1];rfl
theorem Xv.inss{L:N×N×N}{d:Uy}{n c:N}{a:Vr}(h:Xv w lab L base 59 5 (X d n c) (J a) (ZP a)):YY w base (Z w.1) d a:=λi f=>by
 let⟨g,k,e⟩:=h.got O;cases e;have b:∀q u,q<5->([H a[i].1,H a[i].2,H a[i].a,H a[i].b,H a[i].5]:Wo)[q]?=S u->E w (A g<|i*5+q)=S u:=λq u hq j=>h.cell (by
  rw[rH a 0,Xz (sz:=5) (λ_ _=>R) 0 a i f q hq];exact j)
 refine⟨g,0,R,h.blk.1,?_⟩;rw[aV];exact⟨b 0 _ O R,b 1 _ O R,b 2 _ O R,b 3 _ O R,b 4 _ O R⟩
theorem Nh.at_{d:Uy}{o c:N}(h:Nh w lab base (X d o c) K J_ xs iv):d7 w base (Z w.1) d xs:=λi b=>by
 let⟨k,p,j⟩:=h.1.got O;cases j;have f:=h.1;let⟨m,n,e⟩:=(h.2 i b).form;have g:=h.2 i b;rw[e]at g;have a:=λq u hq l=>lq (q:=q) (u:=u) f b hq l;refine⟨k,0,R,f.blk.1,m,n,?_,⟨?_,?_,?_,?_⟩,g.inss⟩;·rw[aV];exact a 0 _ O<|by rw[<-e];rfl
 .rw[aV];exact a 1 _ O R
 .rw[aV];exact a 2 _ O R
 .rw[aV];exact a 3 _ O R
 rw[aV];exact a 4 _ O R
end
section
theorem j8{w:Ub}{b d t e:N}{f g:Zh}(h:Bx w b f t)(k:Bx w d g e)(j:t≠e):b≠d:=λi=>by
 subst i;unfold Bx at h k;rw[h]at k;injection k with k;injection k with _ k;exact j k
theorem XW.below{w w':Ub}{lab:N->N×N×N}{d:N}(h:Sw (Z w.1) w w'):XW w w' lab lab d (λ_=>True) :=
 ⟨h.4,λb _ e _=>⟨h.5 b e,R⟩,λg b f=>g b<|aJ h.4 f⟩
structure Om(w wr:Ub)(lab:N->N×N×N)(V:I)(a:Uy)(n c:N)(k:I)(mb:N)(mv sv:Uj)(M S_:List ag)(iv jv:Vu):Prop where
 low:Sw (Z w.1) w wr
 fb:Bx wr (Z w.1) #[Si S6 V,X a n c] 40
 rb:Bx wr (Z w.1+1) #[Si S6 0,X U 0 0] 30
 mbx:Bx wr mb #[Si S6 k,mv] 30
 mw:Z w.1+1<mb
 m:Nh wr lab (Z w.1) mv 1 3 M iv
 s:Nh wr lab (Z w.1) sv 2 4 S_ jv
 fr:∀q,Z wr.1<=q->lab q=(0,0,0)
 l0:lab (Z w.1)=(0,0,0)/\lab (Z w.1+1)=(0,0,0)/\lab mb=(0,0,0)
variable {w wr w': Ub} {lab lab': N -> N×N×N} {V: I} {a: Uy} {n c: N} {k: I} {mb: N} {mv sv: Uj} {M S_: List ag} {iv jv: N -> Uj} {ok: N -> Prop}
theorem Om.sp(h:Om w wr lab V a n c k mb mv sv M S_ iv jv)(m:Sw (Z w.1) wr w')(d:XW wr w' lab lab' (Z w.1) ok)(e:∀b,b=Z w.1\/b=Z w.1+1\/b=mb->ok b)(g:∀b,lab b=(1,0,0)\/lab b=(2,0,0)->ok b)(j:∀b i,i<J M->lab b=(3,i,0)->ok b)(l:∀b i,lab b=(4,i,0)->ok b):Om w w' lab' V a n c k mb mv sv M S_ iv jv:=by
 have o:=h.5;exact⟨h.1.trans m,h.2.sp d aA (e _<|bC R),h.3.sp d O<|e _ (aZ<|bC R),h.4.sp d O<|e _ (aZ<|aZ R),h.5,h.m.sp d (λb f=>g b<|bC f) j,h.s.sp d (λb f=>g b<|aZ f) λb i _ f=>l b i f,d.3 h.8,
  G (d.2 _ aA h.2.lt (e _<|bC R)).2 h.9.1,G (d.2 _ O h.3.lt<|e _ (aZ<|bC R)).2 h.9.2.1,G (d.2 _ O h.4.lt<|e _ (aZ<|aZ R)).2 h.9.2.2⟩
theorem Om.calm(h:Om w wr lab V a n c k mb mv sv M S_ iv jv)(b:Sw (Z wr.1) wr w'):Om w w' lab V a n c k mb mv sv M S_ iv jv :=
 h.sp (b.mono h.1.4) (XW.below b) (λ_ _=>trivial) (λ_ _=>trivial) (λ_ _ _ _=>trivial) λ_ _ _=>trivial
structure Ny(w wr:Ub)(lab:N->N×N×N)(V:I)(a:Uy)(n c:N)(k:I)(mb:N)(mv sv:Uj)(M S_:List ag)(iv jv:Vu)(xb:N)(xv:Uj)(is:Vr)(t:Yj):Prop where
 s:Om w wr lab V a n c k mb mv sv M S_ iv jv
 bx:Bx wr xb #[xv,Si S6 t.1,Si S6 t.a,Si S6 t.3,Si S6 t.4] 56
 xw:Z w.1<=xb
 lx:lab xb=(0,0,0)
 row:Xv wr lab (3,J M,0) (Z w.1) 59 5 xv (J is) (ZP is)
variable {xb: N} {xv v8: Uj} {is: Vr} {t: Yj} {w8: Ub}
theorem Ny.calm(h:Ny w wr lab V a n c k mb mv sv M S_ iv jv xb xv is t)(b:Sw (Z wr.1) wr w'):Ny w w' lab V a n c k mb mv sv M S_ iv jv xb xv is t :=
 ⟨h.s.calm b,h.2.keep<|b.5 _ h.2.lt,h.3,h.4,h.5.sp (XW.below b) λ_ _=>trivial⟩
theorem Ny.spT(h:Ny w wr lab V a n c k mb mv sv M S_ iv jv xb xv is t)(d:Sw (Z wr.1) wr w')(b:XW wr w' lab lab' (Z w.1) λ_=>True):Ny w w' lab' V a n c k mb mv sv M S_ iv jv xb xv is t :=
 ⟨h.s.sp (d.mono h.s.1.4) b (λ_ _=>trivial) (λ_ _=>trivial) (λ_ _ _ _=>trivial) λ_ _ _=>trivial,h.2.keep<|d.5 _ h.2.lt,h.3,G (b.2 _ h.3 h.2.lt trivial).2 h.4,h.5.sp b λ_ _=>trivial⟩
theorem Ny.turn(h:Ny w wr lab V a n c k mb mv sv M S_ iv jv xb xv is t)(q:N)(u:Uj){i:Uj}{d:Yj}(m:#[xv,Si S6 t.1,Si S6 t.a,Si S6 t.3,Si S6 t.4].setIfInBounds q u=#[i,Si S6 d.1,Si S6 d.a,Si S6 d.3,Si S6 d.4]){f:Vr}(o:Xv (Se wr ⟨xb,q,U⟩ u) lab (3,J M,0) (Z w.1) 59 5 i (J f) (ZP f)):
 Ny w (Se wr ⟨xb,q,U⟩ u) lab V a n c k mb mv sv M S_ iv jv xb i f d:=by
 have j:=h.2.set q u;rw[m]at j;have r:=j8 h.2 h.s.2 vY;have s:=j8 h.2 h.s.3 vY;have v:=j8 h.2 h.s.4 vY;have g:∀b L,lab b=L->L≠(0,0,0)->b≠xb:=λb L e l q=>l (by rw[<-e,q];exact h.4);exact⟨h.s.sp ((Rf).setCell h.3 _) (XW.put xb q u) (λb e=>by obtain rfl|rfl|rfl:=e<;>exact λq=>by first|exact r q.symm|exact s q.symm|exact v q.symm) (λb e=>by rcases e with e|e<;>exact g b _ e sP) (λb p _ e=>g b _ e sP) λb p e=>g b _ e sP,j,h.3,h.4,o⟩
theorem Ny.te(h:Ny w wr lab V a n c k mb mv sv M S_ iv jv xb xv is t)(q:N)(z:I){t':Yj}(b:#[xv,Si S6 t.1,Si S6 t.a,Si S6 t.3,Si S6 t.4].setIfInBounds q (Si S6 z)=#[xv,Si S6 t'.1,Si S6 t'.a,Si S6 t'.3,Si S6 t'.4]):
 Ny w (Se wr ⟨xb,q,U⟩ (Si S6 z)) lab V a n c k mb mv sv M S_ iv jv xb xv is t' :=
 h.turn q (H z) b (h.5.sp (XW.put xb q _) λd e q=>by rw[q,h.4]at e;simp at e)
theorem Ny.push(h:Ny w wr lab V a n c k mb mv sv M S_ iv jv xb xv is t)(d:Vr)(f:wr.grownBy w8 xv.ownBlock)(x:Sx w8 (Z w.1) 59 5 v8 (J is+J d) (ZP is++ZP d))(s:v8.ownBlock=xv.ownBlock\/v8.ownBlock=S (Z wr.1)):
 ∃lab',Ny w (Se w8 ⟨xb,0,U⟩ v8) lab' V a n c k mb mv sv M S_ iv jv xb v8 (is++d) t/\Bx w8 xb #[xv,Si S6 t.1,Si S6 t.a,Si S6 t.3,Si S6 t.4] 56/\Om w w8 lab' V a n c k mb mv sv M S_ iv jv:=by
 let⟨lab',y,m⟩:=h.5.grow f x s h.s.8;have i:∀b,lab b=(0,0,0)->lab b≠(3,J M,0):=λb e q=>by rw[e]at q;simp at q
 have v:Sw (Z w.1) wr w8:=⟨f.1,f.2,f.3,f.4,λq hq=>f.5 q (aX hq h.s.1.4) λe=>by have:=(h.5.1.lt q e.symm).1;omega⟩;have g:=h.s.sp v m (λb e=>by obtain rfl|rfl|rfl:=e;exact i _ h.s.9.1;exact i _ h.s.9.2.1;exact i _ h.s.9.2.2) (λb e q=>by obtain e|e:=e<;>(rw[e]at q;simp at q)) (λb o K e q=>by rw[e]at q;simp at q;omega) (λb o e q=>by rw[e]at q;simp at q);have j:=h.2.sp m h.3<|i _ h.4;have p:=G (m.2 _ h.3 h.2.lt<|i _ h.4).2 h.4;have e1:J (is++d)=J is+J d:=aQ;have z:Xv w8 lab' (3,J M,0) (Z w.1) 59 5 v8 (J (is++d)) (ZP<|is++d):=by rw[e1,j7];exact y
 refine⟨lab',?_,j,g⟩;have u:=j.set 0 v8;have F:=j8 j g.2 vY;have B:=j8 j g.3 vY;have C:=j8 j g.4 vY;have l:∀b L,lab' b=L->L≠(0,0,0)->b≠xb:=λb L e r q=>r (by rw[<-e,q];exact p);exact⟨g.sp ((Rf).setCell h.3 _) (XW.put xb 0 v8) (λb e=>by obtain rfl|rfl|rfl:=e<;>exact λq=>by first|exact F q.symm|exact B q.symm|exact C q.symm) (λb e=>by rcases e with e|e<;>exact l b _ e sP) (λb o _ e=>l b _ e sP) λb o e=>l b _ e sP,u,h.3,p,z.sp (XW.put xb 0 v8) λb e=>l b _ e sP⟩
theorem Ny.side(h:Ny w wr lab V a n c k mb mv sv M S_ iv jv xb xv is t)(x:ag){q:Uj}{o:Obj}(hq:Xv wr lab (4,J S_,0) (Z w.1) 59 5 q (J x.1) (ZP x.1))(i:(D wr o).grownBy w8 sv.ownBlock)(r:Sx w8 (Z w.1) 56 5 v8 (J S_+1) (NH jv S_++Nf q x.2))(m:v8.ownBlock=sv.ownBlock\/v8.ownBlock=S (Z (D wr o).1)):
 ∃lab',Ny w w8 lab' V a n c k mb mv v8 M (S_++[x]) iv (λj=>if j=J S_ then q else jv j) xb xv is t:=by
 have b:=h.calm<|Xb (Below.refl (Z wr.1) wr) o;have s:=hq.sp (XW.below<|Xb (Below.refl (Z wr.1) wr) o) λ_ _=>trivial;let⟨lab',l,d⟩:=b.s.s.push vY x s i r m b.s.8;have f:∀g,lab g=(0,0,0)->lab g≠(2,0,0):=λg e q=>by rw[e]at q;simp at q
 have p:Sw (Z w.1) (D wr o) w8:=⟨i.1,i.2,i.3,i.4,λq hq=>i.5 q (aX hq b.s.1.4) λe=>by have:=(b.s.s.1.1.lt q e.symm).1;omega⟩;have u:=h.s.5;refine⟨lab',⟨b.s.1.trans p,b.s.2.sp d aA (f _ b.s.9.1),b.s.3.sp d O<|f _ b.s.9.2.1,b.s.4.sp d O<|f _ b.s.9.2.2,h.s.5,b.s.m.sp d (λg e q=>by rw[e]at q;simp at q) λg j _ e q=>by rw[e]at q;simp at q,l,d.3 b.s.8,G (d.2 _ aA b.s.2.lt (f _ b.s.9.1)).2 b.s.9.1,G (d.2 _ O b.s.3.lt<|f _ b.s.9.2.1).2 b.s.9.2.1,G (d.2 _ O b.s.4.lt<|f _ b.s.9.2.2).2 b.s.9.2.2⟩,b.2.sp d h.3<|f _ b.4,h.3,G (d.2 _ h.3 b.2.lt<|f _ b.4).2 b.4,b.5.sp d λg e q=>by rw[e]at q;simp at q⟩
theorem Ny.done(m:Ny w wr lab V a n c k mb mv sv M S_ iv jv xb xv is t){o:Obj}(g:(D wr o).grownBy w8 mv.ownBlock)(F:Sx w8 (Z w.1) 56 5 v8 (J M+1) (NH iv M++Nf xv t))(v:v8.ownBlock=mv.ownBlock\/v8.ownBlock=S (Z (D wr o).1)):
 ∃lab',Om w (Se w8 ⟨mb,1,U⟩ v8) lab' V a n c k mb v8 sv (M++[⟨is,t⟩]) S_ (λi=>if i=J M then xv else iv i) jv/\Bx w8 mb #[Si S6 k,mv] 30:=by
 have b:=m.calm<|Xb (Below.refl (Z wr.1) wr) o;let⟨lab',u,f⟩:=b.s.m.push vY ⟨is,t⟩ b.5 g F v b.s.8;have h:∀d,lab d=(0,0,0)->lab d≠(1,0,0):=λd e q=>by rw[e]at q;simp at q
 have y:Sw (Z w.1) (D wr o) w8:=⟨g.1,g.2,g.3,g.4,λq hq=>g.5 q (aX hq b.s.1.4) λe=>by have:=(b.s.m.1.1.lt q e.symm).1;omega⟩;have z:=m.s.5;have K:=G (f.2 _ aA b.s.2.lt (h _ b.s.9.1)).2 b.s.9.1;have P:=G (f.2 _ O b.s.3.lt<|h _ b.s.9.2.1).2 b.s.9.2.1;have r:=G (f.2 _ O b.s.4.lt<|h _ b.s.9.2.2).2 b.s.9.2.2;have x:=b.s.2.sp f aA (h _ b.s.9.1);have B:=b.s.3.sp f O<|h _ b.s.9.2.1;have p:=b.s.4.sp f O<|h _ b.s.9.2.2;have C:=b.s.s.sp f (λd e q=>by rw[e]at q;simp at q) (λd i _ e q=>by rw[e]at q;simp at q);have j:∀d L,lab' d=L->L≠(0,0,0)->d≠mb:=λd L e s q=>s (by rw[<-e,q];exact r);have l:=XW.put (w:=w8) (lab:=lab') (base:=Z w.1) mb 1 v8;exact⟨lab',⟨(b.s.1.trans y).setCell (p:=A mb 1) (by show Z w.1<=mb;omega) _,x.other λe=>O,B.other λe=>O,p.set 1 v8,z,u.sp l (λd e=>j d _ e sP) λd i _ e=>j d _ e sP,C.sp l (λd e=>j d _ e sP) λd i _ e=>j d _ e sP,l.3<|f.3 b.s.8,K,P,r⟩,p⟩
def Oz(w wr:Ub)(V:I)(a:Uy)(n c:N)(k:I)(mb:N)(mv sv:Uj)(M S_:List ag)(iv jv:Vu)(xb:N)(is:Vr)(t:Yj):Prop:=∃lab xv,Ny w wr lab V a n c k mb mv sv M S_ iv jv xb xv is t
def O9(w wr:Ub)(V:I)(a:Uy)(n c:N)(k:I)(mb:N)(mv sv:Uj)(M:List ag)(iv:Vu)(xb:N)(S_:List ag)(is:Vr)(t:Yj):Prop:=∃lab xv jv,Ny w wr lab V a n c k mb mv sv M S_ iv jv xb xv is t
def PQ(w wr:Ub)(V:I)(a:Uy)(n c:N)(k:I)(mb:N)(sv:Uj)(M S_:List ag):Prop:=∃lab mv iv jv,Om w wr lab V a n c k mb mv sv M S_ iv jv/\sv≠X U 0 0
end
theorem Qa:(prog.info? 56).map (λi=>(i.8,i.3,i.4))=S (S<|.agg #[Hq,H 0,H 0,H 0,H 0],5,56):=vZ
def kr:Code->List Code
 |.loop c=>[c]
 |.seq a b=>kr a++kr b
 |.block _ c=>kr c
 |.scope c=>kr c
 |.cond _ a b=>kr a++kr b
 |_=>[]
noncomputable def Ao:Code:=(kr<|f19.9.getD .skip).getD 0 .skip
noncomputable def Nb:Code:=(kr Ao).getD 0 .skip
theorem zY(T:Type):∀(a:List T)(k:N)(f:N->T),(∀i (h:i<J a),f (k+i)=a[i])->a=(List.range' k (J a)).map f
 |[],_,_,_=>R
 |x::a,k,f,h=>by
  rw[bA,List.range'_succ,eH];have b:=h 0 sP;rw[fW,eM]at b;rw[b];congr 1;exact zY T a (k+1) f λi c=>by have:=h (i+1) SK;rwa[fO,show k+(i+1)=k+1+i by omega]at this
theorem Lw:(List.range' 13 155).map h=(h 13::h 14::h 15::h 16::h 17::h 18::h 19::h 20::h 21::h 22::h 23::h 24::h 25::h 26::h 27::h 28::h 29::h 30::h 31::h 32::h 33::h 34::h 35::h 36::h 37::h 38::h 39::h 40::h 41::h 42::h 43::h 44::h 45::h 46::h 47::h 48::h 49::h 50::h 51::h 52::h 53::h 54::h 55::h 56::h 57::h 58::h 59::h 60::h 61::h 62::h 63::h 64::h 65::h 66::h 67::h 68::h 69::h 70::h 71::h 72::h 73::h 74::h 75::h 76::h 77::h 78::h 79::h 80::h 81::h 82::h 83::h 84::h 85::h 86::h 87::h 88::h 89::h 90::h 91::h 92::h 93::h 94::h 95::h 96::h 97::h 98::h 99::h 100::h 101::h 102::h 103::h 104::h 105::h 106::h 107::h 108::h 109::h 110::h 111::h 112::h 113::h 114::h 115::h 116::h 117::h 118::h 119::h 120::h 121::h 122::h 123::h 124::h 125::h 126::h 127::h 128::h 129::h 130::h 131::h 132::h 133::h 134::h 135::h 136::h 137::h 138::h 139::h 140::h 141::h 142::h 143::h 144::h 145::h 146::h 147::h 148::h 149::h 150::h 151::h 152::h 153::h 154::h 155::h 156::h 157::h 158::h 159::h 160::h 161::h 162::h 163::h 164::h 165::h 166::h 167::[]):=R
theorem qd(h:J y=155):∃f:Vu,y=(f 13::f 14::f 15::f 16::f 17::f 18::f 19::f 20::f 21::f 22::f 23::f 24::f 25::f 26::f 27::f 28::f 29::f 30::f 31::f 32::f 33::f 34::f 35::f 36::f 37::f 38::f 39::f 40::f 41::f 42::f 43::f 44::f 45::f 46::f 47::f 48::f 49::f 50::f 51::f 52::f 53::f 54::f 55::f 56::f 57::f 58::f 59::f 60::f 61::f 62::f 63::f 64::f 65::f 66::f 67::f 68::f 69::f 70::f 71::f 72::f 73::f 74::f 75::f 76::f 77::f 78::f 79::f 80::f 81::f 82::f 83::f 84::f 85::f 86::f 87::f 88::f 89::f 90::f 91::f 92::f 93::f 94::f 95::f 96::f 97::f 98::f 99::f 100::f 101::f 102::f 103::f 104::f 105::f 106::f 107::f 108::f 109::f 110::f 111::f 112::f 113::f 114::f 115::f 116::f 117::f 118::f 119::f 120::f 121::f 122::f 123::f 124::f 125::f 126::f 127::f 128::f 129::f 130::f 131::f 132::f 133::f 134::f 135::f 136::f 137::f 138::f 139::f 140::f 141::f 142::f 143::f 144::f 145::f 146::f 147::f 148::f 149::f 150::f 151::f 152::f 153::f 154::f 155::f 156::f 157::f 158::f 159::f 160::f 161::f 162::f 163::f 164::f 165::f 166::f 167::[]):=by
 have e:=zY Uj y 13 (λi=>y.getD (i-13) Su) (λi a=>by simp[a]);rw[h]at e;exact⟨λi=>y.getD (i-13) Su,G e<|Lw⟩
structure QE where
 j:N
 tl:Wo
theorem QK{Q_:Yt}(bc:N){Lc X_:N}{u R_:N}{N_ S_:List ag}{o:N}{d:Vr}{U_:Yj}(ia:Uy)(ic:N){c0 c2 c4 c5 c6 c7 L c9:Uj}(hQ:Q (∀c (a1:Act) t_ z w,Q_ (.panic c) (a1.put (S t_) z) w->Q_ (.panic c) a1 w))(hB:g<=Z w.1)(hc:Q (Xf w Lc X_ p l))(a5:Q (i=J l))(af:Q (i=n))(a2:X_<=Z w.1)(bt:u<B)(a0:Q (∀W,Sw (Z w.1) w W->E W (A m<|k+u*6+1)=S (X ia (J d) ic)/\YY W bc g ia d))(ba:Q (∀a9∈d,(∀z∈Iw a9,0<=z/\z<n)/\(∀z∈BW a9,0<=z/\z<n)))(bv:J d<=1048576)(a6:∀(y:Wo)(r:Ub),J y=155->Q (Oz w r (n:I) (S ⟨m,k,U⟩) B c T R_ a A_ N_ S_ h H_ o ((d.map<|ZR l).take (J d)) U_)->Q_ (.exit 2) ⟨(c0::X p i j::c2::Hn (Z w.1)::c4::c5::c6::c7::L::c9::H u::Hn o::H ((J d:N):I)::y).toArray,[]⟩ r){wr:Ub}(C:J y=155)(v:Q (Oz w wr (n:I) (S ⟨m,k,U⟩) B c T R_ a A_ N_ S_ h H_ o ((d.map<|ZR l).take 0) U_)):
 Code.wp prog (Code.loop Nb) Q_ ⟨(c0::X p i j::c2::Hn (Z w.1)::c4::c5::c6::c7::L::c9::H u::Hn o::H ((0:N):I)::y).toArray,[]⟩ wr:=by
 have HX:=Y a6;clear a6;let⟨i0,bf,bm,bn,bo⟩:=fX RB;have br:(0:I)<=(u:I):=O;have bx:(u:I)<(B:I):=O;refine iY (λO_ wr=>∃M:QE,O_=⟨(c0::X p i j::c2::Hn (Z w.1)::c4::c5::c6::c7::L::c9::H u::Hn o::H ((M.j:N):I)::M.2).toArray,[]⟩/\J M.2=155/\M.j<=J d/\Q (Oz w wr (n:I) (S ⟨m,k,U⟩) B c T R_ a A_ N_ S_ h H_ o ((d.map<|ZR l).take M.j) U_)) (λO_ _=>J d-(intOf<|O_.1.getD 12 Su).toNat) ⟨⟨0,y⟩,R,C,aN,v⟩ ?_;clear v C;rintro O_ wr⟨⟨b,y⟩,rfl,C,hj,HQ⟩;dsimp only at C hj HQ |-
 conv=>arg 2;whnf
 obtain⟨bq,rfl⟩:=qd C;clear C;let⟨b3,xv,x⟩:=HQ.o;have f:=Y x;clear f;let⟨k1,bh⟩:=a0 wr x.s.1;have f1:Cl wr (Z w.1) 1 (Hm m k B c):=Bx.cell x.s.2 R;by_cases aj:b<J d
 .have bi:(b:I)<(J d:I):=O
  obtain⟨e,q,rfl,⟨_,b0⟩,be⟩:=bh b aj;have HJ:Q ((d.map<|ZR l).take (b+1)=(d.map<|ZR l).take b++[ZR l d[b]]):=Y (by
   rw[bN<|by simpa using aj];simp)
  have aa:Q (J ((d.map<|ZR l).take b)=b):=Y (by rw[dH,bK];omega);have Z_:=Y<|ba.o _ (aH aj);generalize d[b]=t at*;let⟨g0,g1,g2,g3,g4⟩:=be;let⟨P,V,a8⟩:=x.5.form;rw[aa.o]at a8;subst a8;have L_:=Y x;have x0:Cl wr o 0 (X P b V):=Bx.cell x.2 R;have M_:Q (∀W,Bx W (Z w.1) #[H n,Hm m k B c] 40->Sw (Z w.1) w W->E W (A (Z w.1) 1)=S (Hm m k B c)/\E W (A m<|k+u*6+1)=S (Hm e q (J d) ic)/\E W (A e<|q+b*5)=S (H t.1)/\E W (A e<|q+b*5+1)=S (H t.2)/\E W (A e<|q+b*5+2)=S (H t.a)/\E W (A e<|q+b*5+3)=S (H t.b)/\E W (A e<|q+b*5+4)=S (H t.5)):=Y (λW hF hW=>by
   have j:=λF=>G (hW.cell (p:=A e F) (show e<Z w.1 by omega)) (L_.s.1.cell (p:=A e F) (show e<Z w.1 by omega)).symm
   exact⟨Bx.cell hF R,(a0 W hW).1,G (j _) g0,G (j _) g1,G (j _) g2,G (j _) g3,G (j _) g4⟩)
  have ac:=Y<|L_.calm (Below.refl (Z wr.1) wr).drew;have ar:=Y<|hc.keep (ac.s.1.mono a2);have a3:X_<=Z wr.drew.1:=aJ a2 L_.s.1.4;have az:Q (dB t.1=So->0<=t.2/\t.2<i):=Y (λv=>by have:=Z_.2 t.2 (by simp[BW,v]);rw[af.o];exact this);have ap:Q (aB t.1=So->0<=t.a/\t.a<i):=Y (λv=>by have:=Z_.1 t.a (by simp[Iw,v]);rw[af.o];exact this);have aq:Q (bB t.1=So->0<=t.b/\t.b<i):=Y (λv=>by have:=Z_.1 t.b (by simp[Iw,v]);rw[af.o];exact this);have b1:=L_.s.1.4;clear x;go_wp2;refine Y7 (λr=>E r (A (Z w.1) 1)=S (Hm m k B c)/\E r (A m<|k+u*6+1)=S (Hm e q (J d) ic)/\E r (A e<|q+b*5)=S (H t.1)/\E r (A e<|q+b*5+1)=S (H t.2)/\E r (A e<|q+b*5+2)=S (H t.a)/\E r (A e<|q+b*5+3)=S (H t.b)/\E r (A e<|q+b*5+4)=S (H t.5)) λhHeld=>?_;refine X0 0 ?_;refine X0 2 ?_;refine X0 3 ?_;refine X0 4 ?_;refine X0 5 ?_;refine X0 6 ?_;refine X0 7 ?_;refine X0 8 ?_;refine X0 9 ?_;refine X0 10 ?_;refine X0 11 ?_;refine eS (rs:=[1,12]) vZ sP ?_;refine(bQ R (λK hK=>?_) (bQ R (λK hK=>?_) dY))
  focus
   go_simp;refine hK _ _ kP λhHeld=>?_;clear hK
   try simp only[xX]
   refine Xs 12 λK hK=>?_;go_simp
   go_at_call 48
   refine(yL ar a5 a3 az ap aq ).mono ?_;rintro bd s⟨rfl,F_⟩;have f:=Y<|ac.calm F_;have s1:=M_ s f.s.2 f.s.1;have V_:Cl s o 0 (X P b V):=Bx.cell f.2 R;have x2:=λF=>G (bP s F (A o 0) f.2.lt) V_;clear F_;dsimp only;refine hK _ _ s1 λhHeld=>?_;clear hK;refine Xs 13 λK hK=>?_;go_simp;refine hK _ _ kP λhHeld=>?_;clear hK
  rotate_left
  focus
   go_simp
   go_at_call 48
   refine(yL ar a5 a3 az ap aq ).mono ?_;rintro bd s⟨rfl,F_⟩;have f:=Y<|ac.calm F_;have s1:=M_ s f.s.2 f.s.1;have V_:Cl s o 0 (X P b V):=Bx.cell f.2 R;have x2:=λF=>G (bP s F (A o 0) f.2.lt) V_;clear F_;dsimp only;refine hK _ _ s1 λhHeld=>?_;clear hK
   try simp only[xX]
   refine eS (rs:=[1,13]) vZ sP ?_;refine(bQ R (λK hK=>?_) (bQ R (λK hK=>?_) dY))
   focus
    go_simp;refine hK _ _ kP λhHeld=>?_;clear hK
    try simp only[xX]
    refine Xs 13 λK hK=>?_;go_simp;refine hK _ _ kP λhHeld=>?_;clear hK
   rotate_left
   focus
    go_simp;refine hK _ _ kP λhHeld=>?_;clear hK
    try simp only[xX]
    refine Xs 1 λK hK=>?_;go_simp;refine hK _ _ kP λhHeld=>?_;clear hK
  all_goals (
   have ab:=Y<|f.calm (Xb (Below.refl (Z s.1) s) (Sc #[H (ZR l t).1,H (ZR l t).2,H (ZR l t).a,H (ZR l t).b,H (ZR l t).5] 59));refine Xs 14 λK hK=>?_;refine d6 R _ _ 52 R (Z w.1) 59 i0 (Sa #[H 0,H 0,H 0,H 0,H 0]) 5 40 underlying52 bf bm bn bo R vY (X P b V) b (ZP<|(d.map<|ZR l).take b) R ?s1 (A (Z s.1) 0) 1 1 [H (ZR l t).1,H (ZR l t).2,H (ZR l t).a,H (ZR l t).b,H (ZR l t).5] R R ?s2 ?s3 ?s4 ?s5 ?s6 ?_
   case s1=>have:=ab.5.1;rw[aa.o]at this;exact this
   case s2=>exact World.news_of_block<|World.alloc_heap_new _ _
   case s3=>intro b4 hu;simp at hu;obtain rfl|rfl|rfl|rfl|rfl:=hu<;>rfl
   case s4=>unfold maxLen;omega
   case s5=>omega
   case s6=>have:=f.s.1.4;simp;omega
   intro v8 w8 al a7 _ a4;let⟨bp,P_,ao,ad⟩:=ab.push [ZR l t] a7 (by rw[aa.o];exact al) a4;obtain⟨g8,L,rfl,_,_⟩:=Xm al O;have s8:=M_ w8 ad.2 ad.1;have s9:=M_ _ P_.s.2 P_.s.1;have k0:Cl w8 o 0 (X P b V):=Bx.cell ao R;have kz:=Bx.thaw ao;have bb:Q (Oz w (Se w8 (A o 0) (Hl g8 (b+1) L)) (n:I) (S ⟨m,k,U⟩) B c T R_ a A_ N_ S_ h H_ o ((d.map<|ZR l).take (b+1)) U_):=Y ⟨bp,_,by rw[HJ.o];exact P_⟩;clear al a7 a4 P_ ao ad x0 V_ x2 f ab;refine hK _ _ s8 λhHeld=>?_;clear hK;refine X0 15 ?_;refine Xs 16 λK hK=>?_;go_simp;refine hK _ _ s9 λhHeld=>?_;clear hK;refine Yq ?_;clear hHeld k0 kz s8 s9;go_wp2;refine⟨⟨⟨b+1,_⟩,R,R,(by show b+1<=J d;omega),bb⟩,SA⟩)
 have bi:¬(b:I)<(J d:I):=O;have bl:b=J d:=O;subst bl;go_wp2_with fail
 exact HX _ _ R HQ
def nO(w:Ub)(L B:N)(k:I)(l:List ag)(b:Uj):Prop:=∃a n c,b=Sa #[Si S6 k,X a n c]/\d7 w L B a l/\n=J l/\n<=3000/\km l
theorem nO.keepS{w'}{l:List ag}(h:nO w n m t l a)(s:YA n m w w'):nO w' n m t l a:=by
 let⟨b,g,c,e,d,f⟩:=h;exact⟨b,g,c,e,d.keepS s,f⟩
def jy(w:Ub)(L B:N)(b d e k:I)(l:List ag)(f:Uj):Prop:=∃a n c,f=Sa #[Si S6 b,Si S6 d,Si S6 e,Si S6 k,X a n c]/\nO w L B k l (Sa #[Si S6 k,X a n c])
theorem jy.keepS{w' k}{l:List ag}(h:jy w n m t T z k l a)(s:YA n m w w'):jy w' n m t T z k l a:=by
 let⟨b,f,c,e,d⟩:=h;exact⟨b,f,c,e,d.keepS s⟩
theorem qr:Je s=(Xi s).map (Si S6):=by simp[Je,Xi]
theorem qS:Cg (Xi s) (n:I)=So↔n∈s:=by
 unfold Cg;rw[eY];unfold Xi;rw[aY];constructor
 .rintro⟨a,h,e⟩;have:a=n:=Int.ofNat.inj e;rw[<-this];exact h
 exact λh=>⟨n,h,R⟩
section
structure N0(w w2 wr:Ub)(n A0 A1 M0 M1:N)(P:Tj):Prop where
 bel:Sw (Z w.1) w wr
 sz:Z w2.1<=Z wr.1
 fb:wr.1[Z w.1]?=w2.1[Z w.1]?
 same:YA A0 A1 w2 wr
 rows:∃U_,ZN wr (Z w.1+1) n P U_/\∀i g,i<n->(U_ i).ownBlock=S g->(g<A0\/A1<=g)/\(g<M0\/M1<=g)
section
variable {w w2 wr wr': Ub} {n A0 A1 M0 M1: N} {P: N -> Wc}
theorem N0.below(h:N0 w w2 wr n A0 A1 M0 M1 P)(k:Sw (Z wr.1) wr wr')(c:Z w.1<Z wr.1)(d:A1<=Z w2.1):N0 w w2 wr' n A0 A1 M0 M1 P:=by
 let⟨e,a,b⟩:=h.5;have:=h.2;exact⟨Xg h.1 k,aJ h.2 k.4,G (k.5 _ c) h.3,λq q1 q2=>G (k.5 q O) (h.4 q q1 q2),e,a.below k,b⟩
theorem N0.fresh(h:N0 w w2 wr n A0 A1 0 0 P)(M1:N):N0 w w2 wr n A0 A1 (Z wr.1) M1 P:=by
 let⟨d,a,c⟩:=h.5;exact⟨h.1,h.2,h.3,h.4,d,a,λi g b e=>⟨(c i g b e).1,bC ((a.2.1 i b).lt g e).2⟩⟩
theorem N0.forget(h:N0 w w2 wr n A0 A1 M0 M1 P):N0 w w2 wr n A0 A1 0 0 P:=by
 let⟨d,a,b⟩:=h.5;exact⟨h.1,h.2,h.3,h.4,d,a,λi g c e=>⟨(b i g c e).1,aZ<|aN⟩⟩
theorem N0.congr{P':Tj}(h:N0 w w2 wr n A0 A1 M0 M1 P)(e:∀i,i<n->P i=P' i):N0 w w2 wr n A0 A1 M0 M1 P':=by
 let⟨c,a,b⟩:=h.5;exact⟨h.1,h.2,h.3,h.4,c,a.congr e,b⟩
theorem N0.grown{M:N}(h:N0 w w2 wr n A0 A1 M0 M1 P)(k:wr.grownBy wr' (S M))(l:M0<=M/\M<M1)(f:A1<=M0)(m:Z w.1+1<M0)(d:Z w.1+1<Z wr.1)(j:A1<=Z w2.1):N0 w w2 wr' n A0 A1 M0 M1 P:=by
 let⟨p,a,b⟩:=h.5;have o:=h.2;refine⟨h.1.grown k O (λq e=>by cases e;omega),aJ h.2 k.4,G (k.5 _ O λe=>by injection e with e;omega) h.3,λq q1 q2=>G (k.5 q O λe=>by injection e with e;omega) (h.4 q q1 q2),p,⟨a.1.of_block (k.5 _ d λe=>by injection e with e;omega),λi c=>?_,a.2.2⟩,b⟩;refine(a.2.1 i c).kept k ?_;cases e:(p i).ownBlock with
 |none=>exact bC R
 |some g=>exact aZ λe2=>by injection e2 with e2;have:=(b i g c e).2;omega
theorem N0.push{c:Ub}{o:Obj}{t:N}{x:I}{b:Uj}{K:Vu}(h:N0 w w2 wr n A0 A1 M0 M1 P)(d:ZN wr (Z w.1+1) n P K)(j:∀i g,i<n->(K i).ownBlock=S g->(g<A0\/A1<=g)/\(g<M0\/M1<=g))(f:t<n)(a:(D wr o).grownBy c (K t).ownBlock)(L:Sx c (Z w.1+1+1) 2 1 b (J (P t)+1) ((P t).map (Si S6)++[Si S6 x]))(s:b.ownBlock=(K t).ownBlock\/b.ownBlock=S (Z wr.1+1))(F:A1<=Z w2.1)(V:M1<=Z wr.1)(W:Z w.1+1<A0)(I_:Z w.1+1<M0):
 N0 w w2 (Se c ⟨Z w.1+1,t,U⟩ b) n A0 A1 M0 M1 (λi=>if i=t then P t++[x]else P i)/\YA M0 M1 wr (Se c ⟨Z w.1+1,t,U⟩ b)/\E c ⟨Z w.1+1,t,U⟩=S (K t)/\c.frozen? ⟨Z w.1+1,t,U⟩=Sn:=by
 have K_:=h.2;have B:=d.1.lt;have J_:=a.4;have C:Z (D wr o).1=Z wr.1+1:=aO _ _;have r:∀k,k<Z wr.1->(D wr o).1[k]?=wr.1[k]?:=λk m=>Below.heap_alloc _ _ _ m;have M:=(d.alloc o).step f x b a L (by rw[C];exact s);have l:∀k,k<Z wr.1->k≠Z w.1+1->S k≠(K t).ownBlock->(Se c (A (Z w.1+1) t) b).1[k]?=wr.1[k]?:=λk y z T=>G (Below.heap_setCell _ _ _ _ z) (G (a.5 k O T) (r k y));have p:∀k,k<=Z w.1+1->S k≠(K t).ownBlock:=λk m e=>by have:=((d.2.1 t f).lt k e.symm).1;omega
 have u:=G (a.5 _ O<|p _ aA) (r _ B);refine⟨⟨?_,SF,G (l _ O O<|p _ O) h.3,λq q1 q2=>G (l q O O λe=>by have:=(j t q f e.symm).1;omega) (h.4 q q1 q2),_,M,λi g v e=>?_⟩,λq q1 q2=>l q O O (λe=>by have:=(j t q f e.symm).2;omega),G (Xc u) (d.1.cell f),G (bJ u) (d.1.frozen t)⟩;·exact⟨G a.1 h.1.1,G a.2 h.1.2,G a.3 h.1.3,SF,λk m=>G (l k O O<|p k O) (h.1.5 k m)⟩
 by_cases e1:i=t
 .subst e1;simp only[gG]at e;obtain q|q:=s;·exact j i g v<|by rw[<-q];exact e
  rw[q]at e;have:=gQ e;omega
 simp only[e1,fD]at e;exact j i g v e
end
theorem Di(Z_:I){R_:Uy}{n:N}(c_:N){d:Wi}{ch a3:N}{w:Ub}(ha:Q (Xp w ch a3 R_ d))(l:Q (n=J d))(hB:a3<=Z w.1)(W_:Q (UF d)):
 Sk prog 89 #[Sa #[H Z_,X R_ n c_]] w λe L=>∃a' c',e=Rt (X a' n c')/\Sw (Z w.1) w L/\XR L (Z w.1) (Z L.1) a' ((Rg n).map λb:N=>Xi<|Zq (X8 d) n b):=by
 obtain⟨i0,cm,cw,cz,c6⟩:=Xq RH;have ar:n<=1000:=oP W_.2 l.o;have cr:0<n:=oP W_.1 l.o;have N_:Q (∀x,Re (X8 d) x->x<n):=Y (by rw[l.o];exact W_.re);have be:=Y (λcj (hb:Sw (Z w.1) w cj) z=>qt Z_ c_ z (Y<|ha.keep (hb.mono hB)) l ar cr (oN hb.4) (Y<|by rw[l.o];exact W_.3));have cq:=J9 (P:=prog) 78 89 (Sa #[Hq]) 1 24 underlying78 QQ n O O;have b0:madeCells (Sa #[Hq]).cells (n*1)=madeCells #[Hq] n:=by rw[iN];rfl
 rw[b0]at cq;have dj:=fM (P:=prog) 79 4 (Sb Sn) 1 underlying79 Q7 R S6 S6 n O O;clear b0
 go_in
 go_wp2_with fail
 refine(be _ (Xb (Xb Rf _) _) (-1)).mono ?_;rintro e w2⟨v2,F,rfl,r,b1,az,bv⟩;obtain⟨a2,c2,rfl,br⟩:=Xk (xs:=Xi F) (by rw[<-qr];exact b1);have C:=Y λx=>(bv x).trans (rf vY);have ca:=Y az;have cp:J (Xi F)<=1000:=by rw[Y0];exact aJ (YS az λx l=>N_ x<|(C x).1 l) ar
 have dl:Z w.1+2<=Z w2.1:=by have:=r.4;simp at this;omega
 have bb:Q (Xf w2 (Z w.1+2) (Z w2.1) a2 (Xi F)):=Y (by simpa using br);have a6:Q (N0 w w2 w2 n (Z w.1+2) (Z w2.1) 0 0 (UN (X8 d) 0)):=Y (by
  have hr:=ZN.born (D w<|.cells #[H Z_,X R_ n c_] 40) n;rw[aO]at hr;refine⟨Xg (Xb (Xb Rf _) _) r,aA,R,YA.refl _ _ _,_,(hr.below r).congr λi _=>by simp[UN,Xi],λi da hi e=>by cases e⟩)
 have f0:Cl w2 (Z w.1) 0 (H Z_):=G (r.cell (p:=A (Z w.1) 0) (by show Z w.1<_;simp;omega)) SC;have f1:Cl w2 (Z w.1) 1 (X R_ n c_):=G (r.cell (p:=A (Z w.1) 1) (by show Z w.1<_;simp;omega)) SC;have a9:=Y (show _/\_ from⟨f0,f1⟩);clear r b1 br bv az f0 f1;obtain⟨c,ap⟩:∃c,c=J (Xi F):=⟨_,R⟩;rw[<-ap]at cp |-;have ad:=Y ap;clear ap;go_wp2
 go_loopw [5] (λu wr=>∃k:N,k<=n/\u=H k/\Q (N0 w w2 wr n (Z w.1+2) (Z w2.1) 0 0 (UN (X8 d) k))) λu _=>n-(intOf u).toNat
 case atStart=>exact⟨0,aN,R,a6⟩
 clear a6;obtain⟨k,hk,rfl,g⟩:=hrel;have cv:=g.2;have aq:Z w.1<Z wr.1:=O;have g0:=G (Xc g.3) a9.1;have g1:=G (Xc g.3) a9.2;by_cases di:k<n
 .have bc:=Y<|bb.keepS g.4;have ba:=Y<|YF a2 c2 k (Xi F) (Z w.1+2) (Z w2.1) wr bc ad O;go_wp2_with fail
  refine ba.mono ?_;rintro e w3⟨rfl,b4⟩;rw[b4];clear b4 ba;cases hh:Cg (Xi F) (k:I)with
  |false=>
   have cb:Q (¬Re (X8 d) k):=Y (λq=>by
    have:=qS.2<|(C k).2 q;rw[hh]at this;cases this)
   clear hh;go_wp2;exact⟨⟨k+1,O,gM,Y<|g.congr λi _=>(Cx cb i).symm⟩,SA⟩
  |true=>
   have cd:Q (Re (X8 d) k):=Y<|(C k).1 (qS.1 hh);clear hh;have b8:=Y<|(g.below (Xb Rf (Sc (madeCells #[Sb Sn] n) 4)) aq aA);have bf:=Y<|dG wr (Sb Sn) n 4;go_wp2_with fail
   refine(be _ (Xb g.1 _) (k:I)).mono ?_;rintro e p⟨v5,a,rfl,S_,b3,a0,bx⟩;obtain⟨a5,c5,rfl,bt⟩:=Xk (xs:=Xi a) (by rw[<-qr];exact b3);have af:=Y λx=>(bx x).trans Fc;have co:J (Xi a)<=1000:=by rw[Y0];exact aJ (YS a0 λx l=>N_ x<|rp ((af x).1 l)) ar
   have c7:Z wr.1+1<=Z p.1:=by have:=S_.4;simp at this;omega
   have ac:=Y (by simpa using bt);have aj:=Y<|bf.of_block (S_.5 _ sP);have aa:=Y ((((g.fresh (Z p.1)).below (Xb Rf (Sc (madeCells #[Sb Sn] n) 4)) aq aA)).below S_ SB aA);obtain⟨K,ao⟩:∃K,K=J (Xi a):=⟨_,R⟩;rw[<-ao]at co |-;have bd:=Y ao;have c9:=Y a0;clear S_ b3 bt bx a0 ao b8 bf g g0 g1;obtain⟨M,hM⟩:∃M,M=Z wr.1:=⟨_,R⟩;rw[<-hM]at c7 ac aj aa cv aq |-;clear hM bc;generalize wr=wo at*;go_wp2
   go_loopw [8] (λu y=>∃i:N,i<=K/\u=H i/\Q (p.grownBy y<|some M)/\Q (y.rowIs M 4 n λz=>Sb (decide (z∈a.take i)))) λu _=>K-(intOf u).toNat
   case atStart=>exact⟨0,aN,R,Y<|lJ _ _,Y<|aj.congr λz _=>sP⟩
   obtain⟨i,hi,rfl,B,T⟩:=hrel;by_cases dd:i<K
   .have V_:i<J a:=by have:=bd.o;rw[Y0]at this;omega
    obtain⟨f,V,rfl,T_,m⟩:=ac i (by rw[Y0];exact V_);have t:(Xi a)[i]'(by rw[Y0];exact V_)=((a[i]:N):I):=by simp[Xi]
    rw[t]at m;have bm:=G (bZ (a:=(A f<|V+i)) (B.5 f T_.2 λe=>by injection e with e;omega)) m;have o:=N_ _<|rp ((af _).1 (aH V_));have bh:Q (∀z,z∈a.take (i+1)↔z∈a.take i\/z=a[i]):=Y λz=>Kx V_;clear m t;generalize a[i]=x at*;have cx:=T.cell o;have fx:=T.frozen x;go_wp2_with fail
    refine⟨⟨i+1,O,gM,Y (B.trans ⟨R,R,R,SH,λk _ hk=>Below.heap_setCell _ _ _ _ λe=>hk<|by rw[e]⟩),Y<|(TS (C:=Sb) T x So).congr λz _=>?_⟩,SA⟩;by_cases e:z=x;·rw[aU e,eB<|(bh z).2 (aZ e)]
    rw[aM e];have:(z∈a.take (i+1))↔z∈a.take i:=(bh z).trans ⟨λq=>q.resolve_right e,bC⟩;rw[decide_eq_decide.2 this]
   have O_:Q (a.take i=a):=Y (aW (by have:=bd.o;rw[Y0]at this;omega));rw[O_.o]at T;have a8:=Y<|aa.grown B ⟨aA,O⟩ O O O aA;have a7:=Y (a8.congr λb _=>(BG F a k b).symm);have ds:=B.4;clear O_ B aj aa ac a8;generalize wr=w7 at*;go_wp2
   go_loopw [9] (λu y=>∃i:N,i<=c/\u=H i/\Q (N0 w w2 y n (Z w.1+2) (Z w2.1) M (Z p.1) (Zy (X8 d) F a k i))/\Q (YA M (Z p.1) w7 y)/\Q (Z w7.1<=Z y.1)) λu _=>c-(intOf u).toNat
   case atStart=>exact⟨0,aN,R,a7,Y<|YA.refl _ _ _,Y<|aA⟩
   clear a7;obtain⟨j,hj,rfl,W,al,bi⟩:=hrel;by_cases df:j<c
   .have G_:j<J F:=by have:=ad.o;rw[Y0]at this;omega
    obtain⟨f,V,rfl,T_,m⟩:=bb j (by rw[Y0];exact G_);have t:(Xi F)[j]'(by rw[Y0];exact G_)=((F[j]:N):I):=by simp[Xi]
    rw[t]at m;have bm:=G (bZ (a:=(A f<|V+j)) (W.4 f T_.1 T_.2)) m;have o:=N_ _<|(C _).1 (aH G_);have ce:=Y<|T.of_block (al M aA O);have cx:=ce.cell o;have dn:=bi.o;have dk:Z p.1<=Z wr.1:=O;by_cases s:F[j]∈a
    .have ab:=Y λb=>DN (tg:=X8 d) (k:=k) G_ s b;rw[eB s]at cx;clear m t s;generalize F[j]=x at*;go_wp2;exact⟨⟨j+1,O,gM,Y (W.congr λb _=>(ab b).symm),al,bi⟩,SA⟩
    have ab:=Y λb=>CD (tg:=X8 d) (k:=k) ca G_ s b;rw[dJ s]at cx;clear m t s;generalize F[j]=x at*;obtain⟨ci,h,bq⟩:=W.5;have HU:=Y h;have a4:=Y bq;obtain⟨ua,uc,Y_,_⟩:=Xk<|h.2.1 x o;have cU:=h.1.cell o;have fU:=h.1.frozen x;have Q_:=Y Y_;rw[Y_]at cU;have ct:J (Zy (X8 d) F a k j x)<=1001:=aJ (Ca F a k j x) O;obtain⟨v,X_⟩:∃v,v=J (Zy (X8 d) F a k j x):=⟨_,R⟩;rw[<-X_]at cU ct;have E_:=Y X_;have cc:=Y (by have q:=h.2.1 x o;rw[Y_,<-X_]at q;exact q);have db:=h.1.lt;have cs:f≠Z w.1+1:=O;have cl:f<Z wr.1:=O;clear h bq Y_ X_;go_wp2_with fail
    refine Y7 (λL=>E L (A f<|V+j)=S (H x)) λhHeld=>?_;refine Xn 0 ?_;refine Xn 1 ?_;refine Xn 2 ?_;refine Xn 3 ?_;refine Xn 4 ?_;refine Xn 5 ?_;refine Xn 6 ?_;refine Xn 7 ?_;refine Xn 8 ?_;refine Xn 9 ?_;refine Xn 10 ?_;refine Xn 11 ?_;refine Xn 13 ?_;refine eS (rs:=[12,14]) vZ sP ?_;refine(bQ R (λK_ hK=>?_) (bQ R (λK_ hK=>?_) dY));go_simp;refine hK _ _ kP λhHeld=>?_;clear hK
    try simp only[xX]
    refine Xs 14 λK_ hK=>?_;go_simp;refine hK _ _ kP λhHeld=>?_;clear hK;rotate_left;go_simp;refine hK _ _ kP λhHeld=>?_;clear hK
    try simp only[xX]
    refine Xs 12 λK_ hK=>?_;go_simp;refine hK _ _ kP λhHeld=>?_;clear hK
    all_goals (
     refine Xs 15 λK_ hK=>?_;refine d6 R _ _ 35 R (Z w.1+1+1) 2 i0 (H 0) 1 8 underlying35 cm cw cz c6 R vY (X ua v uc) v ((Zy (X8 d) F a k j x).map (Si S6)) R ?s1 (A (Z wr.1) 0) 1 1 [H k] R R ?s2 ?s3 ?s4 ?s5 ?s6 ?_
     case s1=>exact(ue cc).alloc _
     case s2=>exact Yf _ _ _
     case s3=>intro u hu;simp at hu;subst hu;rfl
     case s4=>unfold maxLen;omega
     case s5=>omega
     case s6=>simp;omega
     intro v8 w8 a1 U_ _ bp;obtain⟨g8,c8,rfl,dc,_⟩:=Xm a1 O;obtain⟨bn,bo,bl,ck⟩:=(W.below (Below.refl (Z wr.1) wr).drew O aA).push (x:=(k:I)) (t:=x) (HU.below (Below.refl (Z wr.1) wr).drew) a4 o (by rw[Q_.o,<-E_.o];exact U_) (by rw[<-E_.o];exact a1) (by rw[Q_.o,<-E_.o];simpa using bp) aA (by show Z p.1<=Z wr.1;omega) O O;rw[Q_.o,<-E_.o]at bl;have z6:E w8 (A f<|V+j)=S (H x):=by
      have h1:=U_.5 f SB (λe=>by
       have h2:=a4 x f o (by rw[Q_.o,<-E_.o];exact e.symm);omega)
      have h3:(D wr.drew<|.cells #[H k] 2).1[f]?=wr.1[f]?:=Below.heap_alloc wr.drew _ _ cl;exact G (Xc<|G h1 h3) bm
     have b7:=Y bn;have cf:Q (YA M (Z p.1) w7<|Se w8 (A (Z w.1+1) x) (Hl g8 (v+1) c8)):=Y λb5 q1 q2=>G (bo b5 q1 q2) (al b5 q1 q2);have cg:Q (Z w7.1<=Z (Se w8 (A (Z w.1+1) x) (Hl g8 (v+1) c8)).1):=Y (by rw[Xd];have:=U_.4;simp at this;omega);clear a1 U_ bp bn bo;refine hK _ _ z6 λhHeld=>?_;clear hK;refine Xn 16 ?_;refine Xn 17 ?_;refine Xs 18 λK_ hK=>?_;go_simp;refine hK _ _ (G (Xc<|Below.heap_setCell _ _ _ _ cs) z6) λhHeld=>?_;clear hK;refine Yq ?_;clear hHeld bl ck z6;generalize Se w8 _ _=w9 at*;go_wp2
     exact⟨⟨j+1,O,gM,Y (b7.congr λb _=>(ab b).symm),cf,cg⟩,SA⟩)
   have O_:Q (∀b,Zy (X8 d) F a k j b=UN (X8 d) (k+1) b):=Y (λb=>Bt C af cd (by have:=ad.o;rw[Y0]at this;omega) b);go_wp2;exact⟨⟨k+1,O,gM,Y<|(W.congr λb _=>O_ b).forget⟩,SA⟩
 have cn:k=n:=O;subst cn;go_wp2;go_ret;obtain⟨ci,h,_⟩:=g.5;exact⟨_,_,R,g.1,(h.ints).mono O aA⟩
end
theorem I9(c:N)(ha:Q (Xp w m k p x))(j:Q (n=J x))(hs:Q (J x+Xx x<=1048576))(hB:k<=Z w.1)(hv:Q (XJ ⟨t,x⟩=So)):
 Sk prog 43 #[Sa #[H t,X p n c]] w λl Q_=>∃P a1 c1 a2 c2 a3 c3 a4 c4,l=Rt (Sa #[X a1 n c1,X a2 n c2,X a3 n c3,X a4 (J (XT P n 0)) c4])/\Sw (Z w.1) w Q_/\YX (X8 x) n P/\MX Q_ (Z w.1) (Z Q_.1) (Pq x) (Pe x) P (Xi<|XT P n 0) a1 a2 a3 a4:=by
 have M:=Y<|Wz hv;have T:n<=1000:=oP M.2 j.o;have ap:0<n:=oP M.1 j.o;have b0:Q (∀V,Re (X8 x) V->V<n):=Y (j.o▸M.re);have a6:=Y λW (g:Sw (Z w.1) w W)=>Tr t p n c x m k W (Y<|ha.keep (g.mono hB)) j hs (oN g.4);rw[<-WY,hv.o]at a6
 go_in
 go_wp2_with fail
 refine(a6 _ (by first|exact Rf|exact Xb Rf _|exact Xb (Xb Rf _) _)).mono ?_;rintro l a⟨rfl,V_⟩;obtain⟨ba,dw⟩:=NC V_;have k0:E a (A (Z w.1) 0)=S (H t):=by rw[ba _ _<|by simp;omega];simp[go_sem]
 have k1:E a (A (Z w.1) 1)=S (X p n c):=by rw[ba _ _<|by simp;omega];simp[go_sem]
 have ac:=Y<|Xg (Xb (Xb (Below.refl (Z w.1) w) _) _) V_;have f0:Z w.1+2<=Z a.1:=by have:=V_.4;simp at this;omega
 have bx:Q (a.rowIs (Z w.1+1) 81 4 λ_=>Hq):=Y (by
  have aj:=eK (D w<|.cells #[H t,X p n c] 40) #[Hq,Hq,Hq,Hq] 81 (λ_=>Hq) (λi o=>by
   match i,o with
   |0,_=>rfl
   |1,_=>rfl
   |2,_=>rfl
   |3,_=>rfl)
  rw[aO]at aj;exact aj.of_block<|V_.5 _ sP)
 clear ba dw V_ a6;have s:Z w.1<Z a.1:=O;go_wp2_with fail
 refine((Y λW (g:Sw (Z w.1) w W) z=>qt t c z (Y<|ha.keep (g.mono hB)) j T ap (oN g.4) (Y (j.o▸M.3))) _ (Xb ac _) (-1)).mono ?_;rintro l v⟨v2,F,rfl,M_,cn,cm,ck⟩;obtain⟨a2,df,rfl,al⟩:=Xk (xs:=Xi F) (qr▸cn);have bt:=Y λV=>(ck V).trans (rf vY);have ea:J (Xi F)<=1000:=by rw[Y0];exact aJ (YS cm λV j=>b0 V<|(bt V).1 j) T
 have f4:Z a.1+1<=Z v.1:=by have:=M_.4;simp at this;omega
 have cr:=Y (by simpa using al);have er:=Y<|Xg (Xb ac<|.cells #[Hq,Hq,Hq,Hq] 81) M_;have bo:Q (Oa a v v (λ_=>Hq) (λz=>Sb (Cg (Xi F) (z:I))) (λi:N=>AQ x 0 (i:I)) 0 0 U 0 0 U 0):=Y (by
  have h0:OE a (D a<|.cells #[Hq,Hq,Hq,Hq] 81) (Z a.1) Hq Hq (λ_=>Hq) (λz=>Sb (Cg (Xi F) (z:I))) 0 U 0 0 U 0 :=
   ⟨by simp[go_sem],SC,SC,SC,λu=>(eK a #[Hq,Hq,Hq,Hq] 81 (λi=>#[Hq,Hq,Hq,Hq].getD i Su) λi o=>by simp[Array.getElem?_eq_getElem o]).frozen u,Xb Rf _,sP,R,dA,dA,bC R⟩
  exact⟨h0.below M_,λi o=>Sz o<|Nat.not_lt_zero _,YA.refl _ _ _,λd Y_=>(by obtain l|l:=Y_<;>cases l),aA⟩)
 have es:Q (E v (A (Z w.1) 0)=S (H t)/\E v (A (Z w.1) 1)=S (X p n c)):=Y ⟨oB M_ (G (bP a _ (A (Z w.1) 0) s) k0) (by show Z w.1<_;simp;omega),oB M_ (G (bP a _ (A (Z w.1) 1) s) k1) (by show Z w.1<_;simp;omega)⟩;clear M_ cn al ck cm;obtain⟨lF,bb⟩:∃lF,lF=J (Xi F):=⟨_,R⟩;rw[<-bb]at ea |-;have cs:=Y bb;have ad:Q (E a (A (Z w.1) 0)=S (H t)/\E a (A (Z w.1) 1)=S (X p n c)):=Y ⟨k0,k1⟩;clear bb k0 k1;go_wp2
 go_loopw [5] (λab wr=>∃(b:N)(N_:Uy)(c1:N)(O_:Uy)(c2:N)(af:Vu),b<=n/\ab=H b/\Q (Oa a v wr af (λz=>Sb (Cg (Xi F) (z:I))) (λi:N=>AQ x 0 (i:I)) b b N_ c1 b O_ c2)) λab _=>n-(intOf ab).toNat
 case atStart=>exact⟨0,U,0,U,0,_,aN,R,bo⟩
 clear bo;obtain⟨b,N_,c1,O_,c2,af,e7,rfl,C⟩:=hrel;have fz:=C.1.7;have cj:Z w.1<Z wr.1:=O;have bm:=Y<|ac.trans (C.1.6.mono O);have g0:=oB C.1.6 ad.1 s;have E_:=oB C.1.6 ad.2 s;by_cases fj:b<n
 .have m0:=C.1.1;obtain⟨i1,dz,el,em,en⟩:=Xq QQ;have cw:=Y<|C.below (Below.refl (Z wr.1) wr).drew;have co:=Y bm.drew;have fr:J (AQ x 0 (b:I))<=1000:=aJ (YO _ _ _) (oN j.o);have cl:Z w.1≠Z a.1:=O;go_wp2_with fail
  refine Y7 (λQ_=>E Q_ (A (Z w.1) 0)=S (H t)/\E Q_ (A (Z w.1) 1)=S (X p n c)) λhHeld=>?_;refine Xn 0 ?_;refine Xn 2 ?_;refine Xn 3 ?_;refine eS (rs:=[1,4]) vZ sP ?_;refine(bQ R (λK hK=>?_) (bQ R (λK hK=>?_) dY))
  focus
   go_simp;refine hK _ _ kP λhHeld=>?_;clear hK
   try simp only[xX]
   refine Xs 4 λK hK=>?_
  all_goals (
   go_simp
   go_at_call 83
   refine((Y λW (g:Sw (Z w.1) w W) u=>ZE t c u (Y<|ha.keep (g.mono hB)) j O (oN g.4)) _ co (b:I)).mono ?_;rintro l e⟨ua,uc,rfl,B,ci⟩;have R_:=Y<|cw.newU (u:=X ua (J (AQ x 0 (b:I))) uc) (uc:=uc) B R ci;have y0:=R_.1.1;have yl:=R_.1.7;have bh:=oB B g0 cj;have bi:=oB B E_ cj;have az:Z wr.1<=Z e.1:=B.4;clear B ci;generalize J (AQ x 0 (b:I))=ul at*;refine hK _ _ ⟨bh,bi⟩ λhHeld=>?_;clear hK;refine Xn 5 ?_;skip)
  rotate_left;refine eS (rs:=[1,6]) vZ sP ?_;refine(bQ R (λK hK=>?_) (bQ R (λK hK=>?_) dY))
  focus
   go_simp;refine hK _ _ kP λhHeld=>?_;clear hK
   try simp only[xX]
  rotate_left
  all_goals (
   try (refine eS (rs:=[6]) vZ sP ?_;refine bQ R (λK hK=>?_) dY)
   go_simp;refine hK _ _ kP λhHeld=>?_;clear hK
   try simp only[xX]
   skip)
  focus
   refine Xs 1 λK hK=>?_;go_simp;refine hK _ _ kP λhHeld=>?_;clear hK
  all_goals (
   refine Xs 7 λK hK=>?_;refine d6 R _ _ 78 R (Z a.1+1) 89 i1 (Sa #[Hq]) 1 24 underlying78 dz el em en R vY (X N_ b c1) b ((Rg b).map λi=>if i=b then X ua ul uc else af i) R ?s1 (A (Z e.1) 0) 1 1 [X ua ul uc] R R ?s2 ?s3 ?s4 ?s5 ?s6 ?_
   case s1=>exact R_.1.9.alloc _
   case s2=>exact Yf _ _ _
   case s3=>intro ab Z_;simp at Z_;subst Z_;rfl
   case s4=>unfold maxLen;omega
   case s5=>omega
   case s6=>simp;omega
   intro v8 w8 be cg _ cb;obtain⟨g8,c8,rfl,fc,_⟩:=Xm be O;obtain⟨b8,b3,b6,a9⟩:=R_.app1 cg (by rw[aU R];exact be) (by simpa using cb);have z0:=G (b3 0) R_.1.1;have zf:=b6 0;have za:=oB a9 bh s;have zb:=oB a9 bi s;have a0:=Y b8;clear be cg cb b8 b3 b6 a9;refine hK _ _ ⟨za,zb⟩ λhHeld=>?_;clear hK;refine Xn 8 ?_;refine Xs 9 λK hK=>?_;go_simp;refine hK _ _ ⟨G (Xc<|Below.heap_setCell _ _ _ _ cl) za,G (Xc<|Below.heap_setCell _ _ _ _ cl) zb⟩ λhHeld=>?_;clear hK;refine Yq ?_;clear hHeld z0 zf za zb y0 yl bh bi m0;generalize Se w8 _ _=w9 at*;have S_:=Y<|a0.below (Below.refl (Z w9.1) w9).drew;have x1:=a0.1.2;have xl:=a0.1.7;obtain⟨i2,al,ei,ej,ek⟩:=Xq Q7;have bp:=Y λW (aj:YA (Z a.1+1) (Z v.1) v W)=>YF a2 df b (Xi F) (Z a.1+1) (Z v.1) W (Y<|cr.keepS aj) cs O;go_wp2_with fail
   refine Y7 (λ_=>True) λhHeld=>?_;refine Xn 0 ?_;refine Xn 2 ?_;refine Xn 3 ?_;refine eS (rs:=[1,4]) vZ sP ?_;refine(bQ R (λK hK=>?_) (bQ R (λK hK=>?_) dY));go_simp;refine hK _ _ kP λhHeld=>?_;clear hK
   try simp only[xX]
   refine Xs 4 λK hK=>?_;go_simp
   go_at_call 85
   refine(bp _ S_.3).mono ?_;rintro l ep⟨rfl,bf⟩;subst bf;refine hK _ _ trivial λhHeld=>?_;clear hK;refine Xs 5 λK hK=>?_;go_simp;refine hK _ _ kP λhHeld=>?_;clear hK;rotate_left;go_simp
   go_at_call 85
   refine(bp _ S_.3).mono ?_;rintro l ep⟨rfl,bf⟩;subst bf;refine hK _ _ trivial λhHeld=>?_;clear hK
   try simp only[xX]
   refine eS (rs:=[1,5]) vZ sP ?_;refine(bQ R (λK hK=>?_) (bQ R (λK hK=>?_) dY));go_simp;refine hK _ _ kP λhHeld=>?_;clear hK
   try simp only[xX]
   refine Xs 5 λK hK=>?_;go_simp;refine hK _ _ kP λhHeld=>?_;clear hK;rotate_left;go_simp;refine hK _ _ kP λhHeld=>?_;clear hK
   try simp only[xX]
   refine Xs 1 λK hK=>?_;go_simp;refine hK _ _ kP λhHeld=>?_;clear hK
   all_goals (
    refine Xs 6 λK hK=>?_;refine d6 R _ _ 79 R (Z a.1+1) 4 i2 (Sb Sn) 1 1 underlying79 al ei ej ek R vY (X O_ b c2) b ((Rg b).map λz:N=>Sb (Cg (Xi F) (z:I))) R ?s1 (A (Z w9.1) 0) 1 1 [Sb (Cg (Xi F) (b:I))] R R ?s2 ?s3 ?s4 ?s5 ?s6 ?_
    case s1=>exact S_.1.o2.alloc _
    case s2=>exact Yf _ _ _
    case s3=>intro ab Z_;simp at Z_;subst Z_;rfl
    case s4=>unfold maxLen;omega
    case s5=>omega
    case s6=>simp;omega
    intro gb eq bd ce _ ca;obtain⟨ez,dd,rfl,e9,_⟩:=Xm bd O;obtain⟨b7,b1,b5,ds⟩:=S_.app2 ce bd (by simpa using ca);have z0:=G (b1 1) S_.1.2;have zf:=b5 1;have ct:=Y b7;clear bd ce ca b7 b1 b5 ds;refine hK _ _ trivial λhHeld=>?_;clear hK;refine Xn 7 ?_;refine Xs 8 λK hK=>?_;go_simp;refine hK _ _ trivial λhHeld=>?_;clear hK;refine Yq ?_;clear hHeld z0 zf;generalize Se eq _ _=gd at*;go_wp2
    exact⟨⟨b+1,_,c8,_,dd,_,O,gM,ct⟩,SA⟩))
 have dn:n=b:=O;subst dn;have bn:=Y ((Y λW (g:Sw (Z w.1) w W)=>Di t c (Y<|ha.keep (g.mono hB)) j (oN g.4) M).o wr bm);go_wp2_with fail
 refine bn.mono ?_;rintro l w3⟨da,dc,rfl,a7,cd⟩;have J_:Q (YX (X8 x) n ((Rg n).map (L0<|(Rg n).map (Zq (X8 x) n)))):=Y (by rw[j.o];exact M.model);have br:=Y (CT da dc ((Rg n).map (Zq (X8 x) n)) (Z wr.1) (Y<|by rw[jO];exact cd) (Y sP) T aA (Y (λga hl=>by
  obtain⟨b,_,rfl⟩:=aY.1 hl;exact⟨aJ (rr n b) T,λp ha=>(Jo.1 ha).1⟩)))
 have cv:=Y<|C.below a7;have f5:=a7.4;clear a7 cd bn;go_wp2_with fail
 refine br.mono ?_;rintro l h⟨v4,rfl,a8,aq⟩;obtain⟨P,hP⟩:∃P,P=(Rg n).map (L0<|(Rg n).map (Zq (X8 x) n)):=⟨_,R⟩;rw[<-hP]at J_ aq;obtain⟨y,c3,rfl,fb,_⟩:=Xm aq ap;have f:=Y<|cv.below a8;have cx:=Y aq;have f6:=a8.4;have t2:=f.1.3;have t3:=f.1.4;have tz:=f.1.5;have e0:=oB f.1.6 ad.1 s;have e6:=oB f.1.6 ad.2 s;have fn:Z w.1≠Z a.1:=O;have fq:Z a.1≠Z w.1:=O;clear a8 aq br hP g0 E_;have t0:=f.1.1;have t1:=f.1.2;have fs:Q (J (P.map<|Value.int S6)=n*1):=Y (by simp[J_.1]);have bq:Q (Xf h (Z w3.1) (Z h.1) (S ⟨y,0,U⟩) P):=Y (by
  obtain⟨a',c',eg,ch⟩:=Xk cx;injection eg with e1;rw[e1];exact ch)
 have fi:=f.1.7;have fe:Z a.1<Z w3.1:=O;have dl:=Y<|bx.of_block (f.1.6.5 _ bx.lt);have bv:=Y (λW (hW:W=Se h (A (Z a.1) 2) (Hl y n c3))=>Me (S ⟨y,0,U⟩) c3 (Z w3.1) (Z h.1) (Y J_.1.symm) T (Re<|X8 x) (Y λb c _ hc=>(Kf J_ hc).1.2) (Y λeo b g=>aJ (o9 J_ b0 eo g) T) n 0 W (Y<|bq.keepS λd T_ L=>by rw[hW];exact Below.heap_setCell _ _ _ _<|by dsimp only;omega) (by rw[hW,Xd];exact aA) (Y Re.root) T);go_wp2_with fail
 obtain⟨e,r⟩:∃e,e=Se h (A (Z a.1) 2) (Hl y n c3):=⟨_,R⟩;rw[<-r];have B:∀d,d≠Z a.1->e.1[d]?=h.1[d]?:=λd Y_=>by rw[r];exact Below.heap_setCell _ _ _ _ Y_
 have az:Z e.1=Z h.1:=by rw[r,Xd]
 have s2:E e (A (Z a.1) 2)=S (Hl y n c3):=by rw[r];exact fQ _ _ _ t2
 have s0:E e (A (Z a.1) 0)=S (X N_ n c1):=by rw[r];exact G (XL _ _ O _) t0
 have s1:E e (A (Z a.1) 1)=S (X O_ n c2):=by rw[r];exact G (XL _ _ O _) t1
 have s3:E e (A (Z a.1) 3)=S Hq:=by rw[r];exact G (XL _ _ O _) t3
 have sz:∀u,e.frozen? (A (Z a.1) u)=Sn:=λu=>by rw[r,eX];exact tz u
 have ar:e.4=h.4/\e.2=h.2/\e.5=h.5:=by rw[r];exact⟨R,R,R⟩
 have ee:0<J (XT P n 0):=by cases n<;>simp[XT]
 refine(bv e r).mono ?_;rintro l w6⟨v6,rfl,q,bc⟩;obtain⟨L_,c4,rfl,cf,_⟩:=Xm bc ee;have cz:=Y bc;have aa:Z a.1<Z e.1:=O;have r0:=oB q s0 aa;have r1:=oB q s1 aa;have r2:=oB q s2 aa;have r3:=oB q s3 aa;have rz:=λu=>G (bJ<|q.5 _ aa) (sz u);have bl:Q (∀d,d<Z h.1->d≠Z a.1->w6.1[d]?=h.1[d]?):=Y λd T_ L=>G (q.5 d O) (B d L);have a5:Q (w6.4=h.4/\w6.2=h.2/\w6.5=h.5):=Y ⟨G q.1 ar.1,G q.2 ar.2.1,G q.3 ar.2.2⟩;have f7:=q.4;have G_:=dl.of_block<|bl _ O O;have y0:=G_.cell (i:=0) vY;have y1:=G_.cell (i:=1) vY;have y2:=G_.cell (i:=2) vY;have y3:=G_.cell (i:=3) vY;have yf:=G_.frozen;have fl:Z a.1≠Z w.1+1:=O;have eb:Z w.1+1≠Z a.1:=O;have c7:=Y G_;have cq:=Y cf;have db:=Y az;generalize hQ:J (XT P n 0)=ql at*;have HQ:=Y hQ;clear r B s0 s1 s2 s3 sz ar q bc bv t0 t1 t2 t3 tz G_ az hQ;go_wp2_with fail
 obtain⟨wE,hE⟩:∃wE,wE=Se (Se (Se (Se (Se w6 (A (Z a.1) 3) (Hl L_ ql c4)) (A (Z w.1+1) 0) (X N_ n c1)) (A (Z w.1+1) 1) (X O_ n c2)) (A (Z w.1+1) 2) (Hl y n c3)) (A (Z w.1+1) 3) (Hl L_ ql c4):=⟨_,R⟩;rw[<-hE];obtain⟨z0,z1,z2,z3,cc,fx,ec,ef,ed⟩:=xq c7 eb hE;clear hE;refine cC (v:=Sa #[X N_ n c1,X O_ n c2,Hl y n c3,Hl L_ ql c4]) (by simp[results,results43,go_sem,z0,z1,z2,z3]) R ?_;have az:=db.o;have cf:=cq.o;have X_:=λd T_ L h3=>G (cc d L h3) (bl d T_ L);obtain⟨E_,q1,e1,e8,_⟩:=Xm f.1.9 ap;obtain⟨g2,q2,e2,fa,_⟩:=Xm f.1.o2 ap;injection e1 with di et eu;injection e2 with dj ev ey;subst di;subst dj;refine⟨P,S<|A E_ 0,c1,S<|A g2 0,c2,S<|A y 0,c3,S<|A L_ 0,c4,by rw[HQ.o],?_,J_,?_,?_,?_,?_⟩
 .have U_:=ac.trans<|f.1.6.mono (dU s);exact⟨G ec<|G a5.1 U_.1,G ef<|G a5.2.1 U_.2,G ed<|G a5.2.2 U_.3,oN U_.4,λd Y_=>G (X_ d O O O) (U_.5 d Y_)⟩
 .intro i o;have ao:i<n:=by have:=j.o;simp only[Pq,bK,gI]at o;omega
  obtain⟨lo,ch,a',c',q1,q2,q3,q4,q5⟩:=f.2 i ao;have du:Cl wE E_ i (af i):=G (bZ<|X_ E_ O O O) (Jj f.1.9<|by simp[ao]);have b4:(Pq x)[i]=AQ x 0 (i:I):=by simp[Pq]
  refine⟨E_,0,R,⟨O,O⟩,a',c',?_,?_⟩;·rw[aV,du,q1,b4]
  rw[b4];exact(q4.keepS λd T_ L=>X_ d O O O).mono O O
 .intro i o;have ao:i<n:=by have:=j.o;simp only[Pe,bK,gI]at o;omega
  have dk:(Pe x)[i]=Xh (Zp x).1 i:=by simp[Pe]
  refine⟨g2,0,R,⟨O,O⟩,?_⟩;rw[aV,dk];have g:=eQ.2<|qS.trans ((bt i).trans (M.top.2.1 i).symm);rw[<-g];exact G (bZ<|X_ g2 O O O) (Jj f.1.o2<|by simp[ao])
 .exact(bq.keepS λd T_ L=>X_ d L O O).mono O O
 intro i o;refine⟨L_,0,R,⟨O,O⟩,?_⟩;rw[aV];have d0:i<J (XT P n 0):=by rw[Y0]at o;exact o
 exact G (bZ<|cc L_ O O) (Jj cz<|by simp[Je,Xi,d0])
def jr(a:List I):Option Value->Value
 |some (Si S6 z)=>Si S6 (Kp a z)
 |_=>Si S6 0
def recW(cs:Wc)(g:N)(a:Wa)(w:Ub):Ub:=a.foldl (λW o=>Se W.drew ⟨g,o,U⟩ (jr cs<|E W ⟨g,o,U⟩)) w
theorem G7:recW l n (s++[m]) w=Se (recW l n s w).drew ⟨n,m,U⟩ (jr l<|E (recW l n s w) ⟨n,m,U⟩):=by
 unfold recW;rw[dT];rfl
theorem ox(c:Wc)(g:N){b:N}(d:b≠g):∀(a:Wa)(w:Ub),(recW c g a w).1[b]?=w.1[b]?
 |[],_=>R
 |o::a,w=>by
  show(recW c g a _).1[b]?=_;rw[ox c g d a];exact Below.heap_setCell w.drew _ _ _ d
theorem pu(c:Wc){g:N}{B:N}(d:B<=g):∀(a:Wa){b w:Ub},Sw B b w->B<=Z b.1->Sw B b (recW c g a w)
 |[],_,_,h,_=>h
 |o::a,_,_,h,hB=>pu c d a (h.drew.setCell (p:=⟨g,o,U⟩) d _) hB
def lP(a:Wc)(b:Wa)(A_:Wo):Wo:=b.foldl (λA_ o=>A_.set o<|jr a A_[o]?) A_
theorem Xv.recW{d:N->N×N×N}{L:N×N×N}{b t e g n c:N}{cs:Wc}:∀(a:Wa){w:Ub}{A_:Wo},Xv w d L b t e (Hl g n c) n A_->(∀o∈a,o<J A_)->Xv (recW cs g a w) d L b t e (Hl g n c) n (lP cs a A_)
 |[],_,_,h,_=>h
 |o::a,w,A_,h,hl=>by
  have k:Xv w.drew d L b t e (Hl g n c) n A_:=h.keep λm _ _ i=>⟨R,i⟩;have f:=hl o sP;have j:E w ⟨g,o,U⟩=A_[o]?:=by rw[aC f];exact h.cell<|aC f
  have l:=k.set o<|jr cs A_[o]?;have:=Xv.recW a l (cs:=cs) (λq hq=>by rw[bL];exact hl q<|by simp[hq]);show Xv (Go.Proofs.YtnggdhnpjfigjaaGreatDoor.recW cs g a (Se w.drew ⟨g,o,U⟩ (jr cs<|E w ⟨g,o,U⟩))) _ _ _ _ _ _ _ _;rw[j];exact this
theorem xu{f1 f3 F:Uj}{L t:N}(T:Q (Bx w n #[a,f1,X p k B,f3,A_,F] 126))(K:n≠m)(X_:Q (Xf w g i p l))(Y_:Q (k=J l))(W_:i<=m)(ap:m<L)(hB:t<=Z w.1)(hL:L<=t)(hp:Q (Zx w L t P<|s.map λo=>Tx<|A m o))(M:Q (j=J s))(a2:j<=1000)(hz:∀q,w.frozen? (A m q)=Sn)(hv:Q (∀b (h:b<J s),∃z:N,E (recW l m (s.take b) w) (A m<|s[b])=S (H z)/\z<J l)):
 Sk prog 130 #[Hn n,X P j c] w λv r=>v=Rt (St #[])/\r=recW l m s w:=by
 have a0:=T.lt;have T_:Q (∀b q,(recW l m (s.take b) w).frozen? (A m q)=Sn):=Y (λb q=>by
  have ac:∀(s:Wa)(w:Ub),(∀q,w.frozen? (A m q)=Sn)->(recW l m s w).frozen? (A m q)=Sn:=by
   intro s
   induction s with
   |nil=>intro w h;exact h q
   |cons o s ih=>intro w h;exact ih _ λq=>by rw[eX];exact h q
  exact ac _ w hz)
 go_in
 go_wp2
 go_loopw [8] (λy wr=>∃b:N,b<=j/\y=H b/\Q (wr=recW l m (s.take b) w)) λy _=>j-(intOf y).toNat
 case atStart=>exact⟨0,aN,R,Y R⟩
 obtain⟨b,hj,rfl,d⟩:=hrel;by_cases a1:b<j
 .have x:b<J s:=oN M.o;have V:Q (recW l m (s.take<|b+1) w=Se (recW l m (s.take b) w).drew (A m<|s[b]) (jr l<|E (recW l m (s.take b) w) (A m<|s[b]))):=Y (by rw[bN x,G7]);let⟨z,W,a5⟩:=hv b x;obtain⟨C,po,rfl,⟨a3,a4⟩,f⟩:=hp b (by simpa using x);rw[cM]at f;unfold Tx at f;have O_:=(fI (λ(o:Option Obj)=>o) (ox l m (b:=C) O (s.take b) w));have H_:Bx wr n #[a,f1,X p k B,f3,A_,F] 126:=T.keep (by rw[d.o];exact ox l m K _ _);have l2:Cl wr n 2 (X p k B):=Bx.cell H_ R;have I_:Sw m w wr:=by rw[d.o];exact pu l aA _ Rf O
  have kp:E wr (A C<|po+b)=S (Ho m<|s[b]):=by rw[<-f];exact Xc<|by rw[d.o];exact O_
  obtain⟨u,F_,e,aa,ar,rfl,ad,af⟩:=jq (X_.keep<|I_.mono W_) (v:=(z:I)) O O;have ab:e=z:=O;subst ab;have R_:E wr (A m<|s[b])=S (H e):=by rw[d.o];exact W
  have D_:Q (recW l m (s.take<|b+1) w=Se wr.drew (A m<|s[b]) (H<|Kp l (e:I))):=Y (by rw[V.o,<-d.o,R_];rfl);have az:(e:I)<(k:I):=oN Y_.o;have V_:wr.frozen? (A m<|s[b])=Sn:=by rw[d.o];exact T_ b _
  have ao:m≠C:=O;have al:m≠u:=O;have aj:m≠n:=λv=>K v.symm;generalize Kp l (e:I)=z1 at*;let⟨S_,N_⟩:∃S_,S_=s[b]:=⟨_,R⟩;rw[<-N_]at kp R_ D_ V_;clear H_ I_ O_ f W V N_ aa;go_wp2;refine Y7 (λr=>E r (A n 2)=S (Hm u F_ k B)/\E r (A u<|F_+e)=S (H z1)) λhHeld=>?_;refine Xn 0 ?_;refine Xn 1 ?_;refine Xn 2 ?_;refine Xn 3 ?_;refine Xn 4 ?_;refine Xn 5 ?_;refine Xn 6 ?_;refine Xs 7 λU_ hK=>?_;go_simp;refine hK _ _ kP λhHeld=>?_;clear hK;refine Xn 8 ?_;refine Xn 9 ?_;refine Xn 10 ?_;refine Xs 11 λU_ hK=>?_;go_simp;refine hK _ _ kP λhHeld=>?_;clear hK;refine Yq ?_;clear hHeld;go_wp2;exact⟨⟨b+1,O,gM,Y D_.symm⟩,SA⟩
 have Z_:b=J s:=oN M.o;have aq:¬(b:I)<(j:I):=O;go_wp2_with fail
 refine bodyPost_end (v:=St #[]) (by simp[results,results130,go_sem]) R ⟨R,?_⟩;rw[d.o,Z_,gC]
shelf_lay LaysM.n176 Nm 176 at Tryz as laysAI
def Wb1_(B : N)(w : Ub): Prop := Lib.TabBelow prog B w "internal/strconv.uint64pow10" .u64 Lib.pow10Tab
theorem Wb2_(d:-9223372036854775808<=t)(f:t<=9223372036854775807)(i:Sx w n 5 1 a m y)(g:n<=Z w.1)(h:m+21<=140737488355328)(j:Wb1_ n w):
 Sk prog 30 #[a,Si S6 t,Si S6 10] w λe b=>∃c,e=Rt c/\Sx b n 5 1 c (m+J (Lib.itoa t)) (y++Lib.byteCells (Lib.itoa t))/\Sw n w b/\Lib.OthersKept 5 U w b :=
 Any.strconv_AppendInt_10 laysAI n m t d f a y w i g h j
structure Wb3_(B:N)(w w':Ub):Prop where
 below:Sw B w w'
 kept:Lib.OthersKept 5 U w w'
theorem Wb3_.refl(B:N)(w:Ub):Wb3_ B w w:=⟨Rf,Lib.OthersKept.refl _ _ _⟩
theorem Wb3_.trans{c:Ub}(h:Wb3_ n w v)(k:Wb3_ n v c):Wb3_ n w c:=⟨h.below.trans k.below,h.kept.trans k.kept⟩
theorem Wb3_.alloc(h:Wb3_ n w v)(a:n<=Z v.1)(o:Obj):Wb3_ n w (D v o):=⟨h.below.alloc a o,h.kept.alloc o⟩
theorem Wb4_(h:Sx w n m k a B y)(b:a.ownBlock=S g):∃c d,w.1[g]?=S (Sc c m d):=by
 obtain⟨p,e|⟨l,i,j,rfl,o,f,r⟩⟩:=h;·rw[e.1]at b;cases b
 cases b;exact⟨_,_,f⟩
theorem Wb3_.grown(h:Wb3_ n w v)(b:v.grownBy u a.ownBlock)(c:Sx v n 5 1 a m y)(d:n<=Z v.1):Wb3_ n w u :=
 ⟨h.below.grown b d λk f=>(c.lt k f).1,h.kept.grown b λ_ e=>Wb4_ c e⟩
theorem Wb3_.calm(h:Sw (Z w.1) w v)(b:n<=Z w.1):Wb3_ n w v:=⟨h.mono b,λk _ a _ _=>G (h.block k<|(aS.1 a).1) a⟩
theorem Wb5_(s:Wn):Lib.strCells (K8 s)=Wab_ s:=by simp[Lib.strCells,Wab_,K8]
theorem Wb6_{xs b:Wn}(Y_ Z_:N)(K:n<=Z w.1)(V:Q (Sx w n 5 1 a (J xs) (Wab_ xs)))(t:Q (J xs+J (Wbg_ b l)<=1000000000000))(hv:Q (∀q,Wb3_ n w q->Xf q Y_ Z_ p l))(B:Q (m=J l))(ab:Q (∀v∈l,Wbn_ v))(ad:Q (Wb1_ n w)):
 Sk prog 14 #[a,Sg (K8 b),X p m c] w λx q=>∃v,x=Rt v/\Wb3_ n w q/\Sx q n 5 1 v (J (xs++Wbg_ b l)) (Wab_<|xs++Wbg_ b l):=by
 obtain⟨o,z,C,L,M⟩:=fX Wat_
 go_in
 have ac:(K8 b).size=J b:=i7 b;have W:Q (J xs+J b<=1000000000000):=Y (by have:=t.o;unfold Wbg_ at this;simp only[aQ]at this;omega);have aq:m<=1000000000000:=by
  have:=t.o;have x:=B.o;have a0:=Wbe_ l;unfold Wbg_ at this;simp only[aQ]at this;omega
 go_wp2_with (at_builtin;refine Lib.wpList_append_own_string _ R _ _ 22 9 R n 5 o underlying22 underlying9 z C L M _ _ _ R V.o (K8 b) R ?c1 ?c2 K ?_)
 case c1=>have:=W.o;unfold maxLen;omega
 case c2=>have:=W.o;omega
 intro v1 d f e i;have g:Q (Wb3_ n w d):=Y<|(Wb3_.refl n w).grown e V.o K;have r:Q (Sx d n 5 1 v1 (J (xs++b)) (Wab_<|xs++b)):=Y (by rw[aQ,Wad_,<-Wb5_ b,<-ac];exact f);clear f e i;go_wp2
 go_loopw [0,14] (λaf F wr=>∃k:N,k<=m/\F=Si S6 k/\Q (Wb3_ n w wr)/\Q (Sx wr n 5 1 af (J (xs++(b++Wbb_ (l.take k)))) (Wab_<|xs++(b++Wbb_ (l.take k))))) λ_ F _=>m-(intOf F).toNat
 case atStart=>exact⟨0,aN,R,g,Y<|by simpa [Wbb_]using r.o⟩
 clear g r;obtain⟨k,hk,rfl,HK,u⟩:=hrel;have ar:=HK.below.size;by_cases ap:k<m
 .have P:k<J l:=by have:=B.o;omega
  obtain⟨aj,o_,rfl,al,hc⟩:=(hv.o wr HK.o) k P;have H_:=Y<|ab.o l[k] (aH P);have W_:Q (xs++(b++Wbb_ (l.take<|k+1))=(xs++(b++Wbb_ (l.take k))++[32])++Lib.itoa l[k]):=Y (by rw[bN P,Wbc_];simp);have h:Q (J (xs++(b++Wbb_ (l.take k)))+1<=1000000000000):=Y (by
   have J_:=t.o;have h3:=Wbf_ l k;unfold Wbg_ at J_;simp only[aQ,bA]at J_ h3 |-;omega)
  generalize l[k]=aa at*;generalize xs++(b++Wbb_ (l.take k))=T at*;go_wp2_with (at_builtin;refine bT _ R _ _ 22 R n 5 o (Si .u8 0) 1 1 underlying22 z C L M R vY _ _ _ R (u.alloc _) ⟨Z wr.1,0,U⟩ 1 1 [Si .u8 32] R R ?c1 ?c2 ?c3 ?c4 ?c5 ?_)
  case c1=>exact cell_one_new _ _ _
  case c2=>intro a j;simp at j;subst j;rfl
  case c3=>have:=h.o;unfold maxLen;omega
  case c4=>have:=h.o;omega
  case c5=>simp;omega
  intro v1 d f e i y;have r:Q (Sx d n 5 1 v1 (J (T++[32])) (Wab_<|T++[32])):=Y (by rw[Wac_,aQ];exact f);have g:Q (Wb3_ n w d):=Y<|(HK.alloc O _).grown e (u.alloc _) SB;have az:Z w.1<=Z d.1:=g.below.size;clear f e i y;have X_:=Y<|ad.on g.below;have U_:Q (J (T++[(32:UInt8)])+21<=140737488355328):=Y (by have:=h.o;simp only[aQ,bA,bO];omega);go_wp2_with (go_at_call 30;refine(Wb2_ (by have:=H_.o;unfold Wbn_ at this;omega) (by have:=H_.o;unfold Wbn_ at this;omega) r.o O U_.o X_.o).mono ?_;rintro x P_⟨x2,rfl,O_,L_,M_⟩)
  have R_:Q (Wb3_ n w P_):=Y<|g.trans ⟨L_,M_⟩;have s:Q (Sx P_ n 5 1 x2 (J (xs++(b++Wbb_ (l.take<|k+1)))) (Wab_<|xs++(b++Wbb_ (l.take<|k+1)))):=Y (by rw[W_.o,Wad_,aQ (bs:=Lib.itoa aa)];exact O_);clear O_ L_ M_;go_wp2;exact⟨⟨k+1,O,gM,R_,s⟩,SA⟩
 have ao:k=m:=O;have s:Q (Sx wr n 5 1 u0 (J (xs++(b++Wbb_ l))) (Wab_<|xs++(b++Wbb_ l))):=Y (by have:=u.o;rwa[aW (by have:=B.o;omega)]at this);have h:Q (J (xs++(b++Wbb_ l))+1<=1000000000000):=Y (by have:=t.o;unfold Wbg_ at this;simp only[aQ,bA,bO]at this |-;omega);have Q_:Q (xs++Wbg_ b l=(xs++(b++Wbb_ l))++[10]):=Y (by simp[Wbg_]);generalize xs++(b++Wbb_ l)=T at*;go_wp2_with (at_builtin;refine bT _ R _ _ 22 R n 5 o (Si .u8 0) 1 1 underlying22 z C L M R vY _ _ _ R (s.alloc _) ⟨Z wr.1,0,U⟩ 1 1 [Si .u8 10] R R ?c1 ?c2 ?c3 ?c4 ?c5 ?_)
 case c1=>exact cell_one_new _ _ _
 case c2=>intro a j;simp at j;subst j;rfl
 case c3=>have:=h.o;unfold maxLen;omega
 case c4=>have:=h.o;omega
 case c5=>simp;omega
 intro v1 d f e i y;have V_:Q (Sx d n 5 1 v1 (J (xs++Wbg_ b l)) (Wab_<|xs++Wbg_ b l)):=Y (by
  rw[Q_.o,Wac_,aQ];exact f)
 have S_:Q (Wb3_ n w d):=Y<|(HK.alloc O _).grown e (s.alloc _) SB;clear f e i y;go_wp2;go_ret;exact⟨_,R,S_.o,V_.o⟩
theorem Wb7_(x:Yg)(h:1<=x.op/\x.op<=13)(b o:N):∃l:List (Addr×I),Yd [dB x.op,aB x.op,bB x.op,iB x.op] [⟨b,o+1,U⟩,⟨b,o+2,U⟩,⟨b,o+3,U⟩,⟨b,o+4,U⟩]=l.map (·.1)/\Wav_ x (Waz_ x.op)=l.map (·.2) /\
 ∀q∈l,q∈[((⟨b,o+1,U⟩:Addr),x.dst),(⟨b,o+2,U⟩,x.a),(⟨b,o+3,U⟩,x.b),(⟨b,o+4,U⟩,x.imm)]:=by
 obtain⟨a,d,c,e,f⟩:=x;simp only at h |-;have g:a=1\/a=2\/a=3\/a=4\/a=5\/a=6\/a=7\/a=8\/a=9\/a=10\/a=11\/a=12\/a=13:=O;obtain rfl|rfl|rfl|rfl|rfl|rfl|rfl|rfl|rfl|rfl|rfl|rfl|rfl:=g;·exact⟨[(⟨b,o+1,U⟩,d),(⟨b,o+4,U⟩,f)],R,R,sP⟩
 .exact⟨[(⟨b,o+1,U⟩,d),(⟨b,o+4,U⟩,f)],R,R,sP⟩
 .exact⟨[(⟨b,o+1,U⟩,d),(⟨b,o+2,U⟩,c),(⟨b,o+3,U⟩,e)],R,R,sP⟩
 .exact⟨[(⟨b,o+1,U⟩,d),(⟨b,o+2,U⟩,c),(⟨b,o+3,U⟩,e)],R,R,sP⟩
 .exact⟨[(⟨b,o+1,U⟩,d),(⟨b,o+2,U⟩,c),(⟨b,o+3,U⟩,e)],R,R,sP⟩
 .exact⟨[(⟨b,o+1,U⟩,d),(⟨b,o+2,U⟩,c),(⟨b,o+3,U⟩,e)],R,R,sP⟩
 .exact⟨[(⟨b,o+1,U⟩,d),(⟨b,o+2,U⟩,c),(⟨b,o+3,U⟩,e)],R,R,sP⟩
 .exact⟨[(⟨b,o+1,U⟩,d),(⟨b,o+2,U⟩,c)],R,R,sP⟩
 .exact⟨[(⟨b,o+2,U⟩,c),(⟨b,o+3,U⟩,e)],R,R,sP⟩
 .exact⟨[(⟨b,o+2,U⟩,c)],R,R,sP⟩
 .exact⟨[(⟨b,o+1,U⟩,d),(⟨b,o+2,U⟩,c)],R,R,sP⟩
 .exact⟨[(⟨b,o+2,U⟩,c)],R,R,sP⟩
 exact⟨[(⟨b,o+1,U⟩,d)],R,R,sP⟩
def Wb8_(t:Yj):Wc:=if t.kind=1 then [t.to]else if t.kind=3 then [t.a]else [t.a,t.to,t.els]
theorem Wb9_{t:Yj}:Wbj_ t=Wbg_ (gx t.kind) (Wb8_ t):=by
 unfold Wbj_ gx Wb8_
 repeat' split
 all_goals rfl
theorem Wca_(x:Yj)(h:1<=x.kind/\x.kind<=3)(b o:N):∃l:List (Addr×I),Yd [x.kind != 1,x.kind != 3,x.kind==2] [⟨b,o+1,U⟩,⟨b,o+2,U⟩,⟨b,o+3,U⟩]=l.map (·.1)/\Wb8_ x=l.map (·.2) /\
 ∀q∈l,q∈[((⟨b,o+1,U⟩:Addr),x.a),(⟨b,o+2,U⟩,x.to),(⟨b,o+3,U⟩,x.els)]:=by
 obtain⟨a,c,tg,d⟩:=x;simp only at h |-;have e:a=1\/a=2\/a=3:=O;obtain rfl|rfl|rfl:=e;·exact⟨[(⟨b,o+2,U⟩,tg)],R,R,sP⟩
 .exact⟨[(⟨b,o+1,U⟩,c),(⟨b,o+2,U⟩,tg),(⟨b,o+3,U⟩,d)],R,R,sP⟩
 exact⟨[(⟨b,o+1,U⟩,c)],R,R,sP⟩
end Go.Proofs.YtnggdhnpjfigjaaGreatDoor
