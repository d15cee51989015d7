import Derived.Test.YtnggdhnpjfigjaaGreatDoorE9a
import Derived.Test.YtnggdhnpjfigjaaGreatDoorW14
import Derived.Lib.TrailingZeros
import Derived.Laws.Bits64b
import Derived.Test.YtnggdhnpjfigjaaGreatDoorDG5
namespace Go.Proofs.YtnggdhnpjfigjaaGreatDoor
set_option maxHeartbeats 8000000
set_option maxRecDepth 100000
open _root_ renaming Array.size->Z,List.length->J,Nat->N,Int->I,rfl->R,Option.some->S,Option.none->U,Bool.true->So,Bool.false->Sn,List.range->Rg,absurd->Sz
open Go renaming World.cell?->E,World.alloc->D,Obj.cells->Sc,Ending.returned->Rt,RowKit.Below->Sw,World.ownsRow->Sx,IntKind.i64->S6,Calls->Sk,World.setCell->Se,undef->Su
open Value renaming slice->X,bool->Sb,pointer->Sj,int->Si,agg->Sa,tuple->St,string->Sg
open Go.RowKit Go.Shelf Go.Proofs.Tryz
variable{t T:I}{n m k B g i c:N}{w v:Ub}{a A_:Uj}{p:Uy}{M:Vp}{s:Wa}{l:Wc}{x:Wi}{f F:Wk}{y:Wo}{q:Xe}{R_:Yh}{E_:Zh}
section
attribute [local go_sem] Oper.semAt_some
def K7{a:Type}(f:N->a)(len k:N):List a:=(Rg<|len-k).map λj=>f<|len-1-j
theorem qK{a:Type}(f:N->a){len:N}(h:n<len):K7 f len n=K7 f len (n+1)++[f n]:=by
 unfold K7;have e:len-n=(len-(n+1))+1:=O;rw[e,dN,bG];have e2:len-1-(len-(n+1))=n:=O;simp[e2]
theorem DX{a:Type}(f:N->a){len:N}:K7 f len len=[]:=by simp[K7]
theorem FH{a:Type}(f:N->a){len:N}:J (K7 f len n)=len-n:=by simp[K7]
abbrev Pb(a:N):={ x:N×N // x.2<a }
theorem Ez(b:∀z∈s,z<n)(a:0<n)(j:N):s[j]?.getD 0<n:=by
 by_cases h:j<J s;·rw[aC h];exact b _<|aH h
 rw[dK O];exact a
def WF{a:Wa}{d:N}(c:∀z∈a,z<d)(b:0<d)(j:N):Pb d:=⟨(j,a[j]?.getD 0),Ez c b j⟩
theorem FT(F:Fence)(n:N)(y:F.1 226)(M:F.4=U)(U_:1<=n)(r g f h s len v:N)(u:Wa)(K:N)(d:∀z∈u,z<K)(c:0<K)(V_:len<=1000000)(L:h<f)(C o:List (Pb K)->Vy)(P:∀a x W,C a W->J a<len->YieldAt F (n-1) prog r #[H (x.1.1:I),H (x.1.2:I)] W λe b=>
  (e=Rt (Sb So)/\C (a++[x]) b/\Sw f W b)\/(e=Rt (Sb Sn)/\o (a++[x]) b))(W:Ub)(B:E W (A g 0)=S (Hm h s len v))(T:g<f)(V:∀m,m<len->E W (A h<|s+m)=S (H ((u[m]?.getD 0:N):I)))(w:C [] W):
 CallsIn F n prog 226 #[.func (.yield r) #[] #[],Hn g] W λe b=>(∃P_,e=Rt P_) /\
  ((∃t,t=K7 (WF d c) len 0/\C t b)\/(∃a,(∃k,k<len/\a=K7 (WF d c) len k)/\o a b)):=by
 refine iD func226 R y ?_ M;simp only[ntmps226,xY,Nat.reduceAdd,Nat.reduceSub];gi_wp2
 gi_loopw [3] (λl wr=>∃(k:N)(z:I),k<=len/\l=H z/\z+1=(k:I)/\C (K7 (WF d c) len k) wr/\Sw f W wr)
  (λl _=>(intOf l+1).toNat)
 case atStart=>exact⟨len,_,aA,R,O,by rw[DX];exact w,Rf⟩
 obtain⟨k,z,K_,rfl,X_,p,i⟩:=hrel;have S_:=oB i B T;cases k with
 |zero=>
  have j:z=-1:=O;subst j;gi_wp2
  go_end0
  exact⟨⟨_,R⟩,.inl ⟨_,R,p⟩⟩
 |succ q=>
  have j:z=(q:I):=O;subst j;have hq:q<len:=K_;have T_:=oB i (V q hq) L;let⟨R_,tmps,assign,body,O_,E_⟩:=P _ (WF d c q) wr p (by rw[FH];omega);dsimp only[WF]at O_;gi_wp2;refine E_.mono ?_;rintro e Q_ (⟨rfl,C_,L_⟩|⟨rfl,D_⟩)
  .gi_wp2
   go_roundw
   case rel=>exact⟨q,_,O,R,O,by rw[qK _ hq];exact C_,i.trans L_⟩
   simp[intOf]
  gi_wp2;refine cC (gV R _ _ _) R ?_;exact⟨⟨_,R⟩,.inr ⟨_,⟨q,hq,(qK _ hq).symm⟩,D_⟩⟩
theorem Ba(F:Fence)(n:N)(b:F.1 203)(c:F.4=U)(len a:N):
 CallsIn F n prog 203 #[X p len a] w λe d=>e=Rt (.func (.func 226) #[] #[Sj (S ⟨Z w.1,0,U⟩)])/\d=D w (Sc #[X p len a] 35):=by
 refine iD func203 R b ?_ c;simp only[ntmps203,xY,Nat.reduceAdd,Nat.reduceSub];gi_wp2;go_ret;exact⟨R,R⟩
theorem AA(F:Fence)(c:N)(o:F.1 226)(y:F.4=U)(u:1<=c){len:N}(b:∀K∈s,K<g)(a:0<g)(v:len<=1000000)(d:n<Z w.1)(f:m<Z w.1)(r:E w (A n 0)=S (Hm m k len B))(p:∀j,j<len->E w (A m<|k+j)=S (H ((s[j]?.getD 0:N):I))):
 SeqStopsK F c prog 226 #[Hn n] (λx:Pb g=>#[H (x.1.1:I),H (x.1.2:I)]) (Sw (Z w.1)) (λC=>C=K7 (WF b a) len 0)
  (λL=>∃h,h<len/\L=K7 (WF b a) len h) len w:=λz M i W e _ _ q l=>
 FT F c o y u z n (Z w.1) m k len B s g b a v f M i q W (oB e r d) d (λj t=>oB e (p j t) f) l
end
def oh(o:Option N):I:=match o with
 |some a=>(a:I)
 |none=>-1
def Uv(c:Wk)(d:N)(b:Zm)(a:N):Zm:=if a≠d/\(b=U\/∃k,b=S k/\c a > c k)then S a else b
theorem Cm{cnt:Wk}{b:N}(h:n<J s):NI cnt b (s.take<|n+1)=Uv cnt b (NI cnt b<|s.take n) s[n]:=by
 unfold NI Uv;rw[bN h,dT];rfl
def L0(a:List Wa)(b:N):I:=oh<|NI (λc=>J (a.getD c [])) b (a.getD b [])
theorem DO:∀(e:Wa){a:N},NI f n e=S a->a∈e:=λe=>by
 have i:∀(l:Wa)(d:Zm)(a:N),l.foldl (λd a=>if a≠n/\(d=U\/∃k,d=S k/\f a > f k)then S a else d) d=S a->d=S a\/a∈l:=λl=>by
  induction l with
  |nil=>intro d a h;exact bC h
  |cons c l g=>
   intro d a h;rw[iM]at h;obtain b|b:=g _ a h
   .split at b
    .injection b with b;exact aZ<|by rw[b];exact cI
    exact bC b
   exact aZ<|cN _ b
 intro a h;obtain b|b:=i e U a h;·cases b
 exact b
theorem D9(h:Sx w n m k a B y)(e:v.1=w.1):Sx v n m k a B y:=by
 unfold World.ownsRow at*;rw[e];exact h
theorem CT(L:Uy)(dc:N)(a:List Wa)(S_:N)(hd:Q (XR w S_ m L<|a.map Xi))(K:Q (n=J a))(hn:n<=1000)(hB:m<=Z w.1)(M:Q (∀ac∈a,J ac<=1000/\∀d∈ac,d<n)):
 Sk prog 88 #[X L n dc] w λp s=>∃z,p=Rt z/\Sw (Z w.1) w s/\Sx s (Z w.1) 2 1 z n (((Rg n).map (L0 a)).map (Si S6)):=by
 let⟨i0,a4,a7,a8,a9⟩:=Xq RH
 go_in
 go_wp2
 go_loopw [3,4] (λz u wr=>∃b:N,b<=n/\u=H b/\Q (Sw (Z w.1) w wr)/\Q (Sx wr (Z w.1) 2 1 z b<|((Rg b).map (L0 a)).map (Si S6))) λ_ u _=>n-(intOf u).toNat
 case atStart=>exact⟨0,aN,R,Y<|Xb Rf _,Y (by
  have:=eI (base:=Z w.1) (e:=2) (size:=1) w #[] 0 sP sP R;simpa using this)⟩
 obtain⟨b,hb,rfl,M_,Q_⟩:=hrel;by_cases bl:b<n
 .have P:b<J a:=oN K.o
  have B:Q (∀t (i:t<J a),∃g l h o,L=S (A g l)/\g<m/\E w (A g<|l+t)=S (X h (J a[t]) o)/\Xf w S_ m h (Xi a[t])):=Y (λt i=>by
   let⟨g,l,p,X_,h,o,e1,e2⟩:=hd t (by simpa using i);have e3:(a.map Xi)[t]'(by simpa using i)=Xi a[t]:=sP;rw[e3]at e1 e2;exact⟨g,l,h,o,p,X_.2,by rw[e1];simp[Xi],e2⟩)
  obtain⟨g,l,ab,cb,rfl,X_,F,y⟩:=B b P;have P_:Q (∀t (i:t<J a),∃h o,E w (A g<|l+t)=S (X h (J a[t]) o)):=Y (λt i=>by
   let⟨ba,bn,h,o,p,_,e1,_⟩:=B t i;injection p with p;injection p with e4 e5;subst e4 e5;exact⟨h,o,e1⟩)
  have C:=Y<|M.o a[b] (aH P);have bi:=C.1;have ap:=Y y;have ao:Q (a.getD b []=a[b]):=Y (by simp[P]);have al:=Y F;clear y F B;generalize a[b]=e at*;go_wp2_with fail
  generalize wr=wo at*
  go_loopw [5,6] (λT_ u wq=>∃j:N,j<=J e/\u=H j/\T_=H (oh<|NI (λd=>J (a.getD d [])) b (e.take j))/\Q (Sw (Z w.1) w wq)/\Q (wq.1=wo.1)) λ_ u _=>J e-(intOf u).toNat
  case atStart=>exact⟨0,aN,R,R,M_,Y R⟩
  obtain⟨j,hj,rfl,rfl,f,v⟩:=hrel;have F:=G (XU f O) al;by_cases x:j<J e
  .obtain⟨T_,ov,rfl,bc,U_⟩:=ap j (by simpa [Xi]using x);have ej:=G (XU f O) U_;have e3:(Xi e)[j]'(by simpa [Xi]using x)=((e[j]:N):I):=by simp[Xi]
   rw[e3]at ej;have bb:=C.2 e[j] (aH x);have T:=Y (Cm (cnt:=λd=>J (a.getD d [])) (b:=b) x);have af:Q (∀k,NI (λd=>J (a.getD d [])) b (e.take j)=S k->k<n):=Y λk i=>C.2 k<|iO (DO _ i);clear U_ e3;generalize e[j]=c at*;generalize NI (λd=>J (a.getD d [])) b (e.take j)=bs at*;have V:c<J a:=oN K.o;let⟨a1,c1,V_⟩:=P_ c V;have e1:=G (XU f O) V_;have N_:Q (J (a.getD c [])=J a[c]):=Y (by simp[V]);have bf:=(M a[c] (aH V)).1;clear V_;by_cases r:c=b
   .have q:Q (Uv (λd=>J (a.getD d [])) b bs c=bs):=Y (by unfold Uv;rw[aM λk=>k.1 r]);have q1:((c:I)==(b:I))=So:=by simp[r]
    have q2:((c:I) != (b:I))=Sn:=by simp[r]
    clear r e1;go_wp2_with fail
    refine Y7 (λ_=>True) λhHeld=>?_;refine Xn 0 ?_;refine Xn 1 ?_;refine Xn 2 ?_;refine Xn 3 ?_;refine KH 4 ?_;refine KH 5 ?_;refine KH 6 ?_;refine KH 7 ?_;refine KH 8 ?_;refine KH 9 ?_;refine KH 10 ?_;refine KH 11 ?_;refine KH 12 ?_;refine KH 13 ?_;refine KH 14 ?_;refine KH 15 ?_;refine KH 16 ?_;refine KH 17 ?_;refine KH 18 ?_;refine KH 19 ?_;refine KH 20 ?_;refine Xn 21 ?_;refine Yq ?_;go_wp2;exact⟨⟨j+1,O,gM,by rw[T.o,q.o],Y f.drew,Y v.o⟩,SA⟩
   have q1:((c:I)==(b:I))=Sn:=by simp;omega
   have q2:((c:I) != (b:I))=So:=by simp;omega
   cases bs with
   |none=>
    have q:Q (Uv (λd=>J (a.getD d [])) b U c=S c):=Y (by unfold Uv;rw[aU ⟨r,bC R⟩]);have W:Q (oh U=-1):=Y R;rw[W.o];clear e1;go_wp2_with fail
    refine Y7 (λ_=>True) λhHeld=>?_;refine Xn 0 ?_;refine Xn 1 ?_;refine Xn 2 ?_;refine Xn 3 ?_;refine Xn 4 ?_;refine Xn 5 ?_;refine Xn 6 ?_;refine KH 7 ?_;refine KH 8 ?_;refine KH 9 ?_;refine KH 10 ?_;refine KH 11 ?_;refine KH 12 ?_;refine KH 13 ?_;refine KH 14 ?_;refine KH 15 ?_;refine KH 16 ?_;refine KH 17 ?_;refine KH 18 ?_;refine KH 19 ?_;refine Xn 20 ?_;refine Xn 21 ?_;refine Yq ?_;go_wp2;exact⟨⟨j+1,O,gM,by rw[T.o,q.o];rfl,Y f.drew,Y v.o⟩,SA⟩
   |some k=>
    have be:=af k R;have I_:k<J a:=oN K.o;let⟨a2,c2,W_⟩:=P_ k I_;have e2:=G (XU f O) W_;have O_:Q (J (a.getD k [])=J a[k]):=Y (by simp[I_]);have bh:=(M a[k] (aH I_)).1;have W:Q (oh (S k)=(k:I)):=Y R;rw[W.o];clear W_;by_cases Z_:J a[c] > J a[k]
    focus
     have q:Q (Uv (λd=>J (a.getD d [])) b (S k) c=S c):=Y<|by unfold Uv;rw[aU ⟨r,aZ ⟨k,R,by show J (a.getD c []) > J (a.getD k []);rw[N_.o,O_.o];exact Z_⟩⟩]
    rotate_left
    focus
     have q:Q (Uv (λd=>J (a.getD d [])) b (S k) c=S k):=Y (by
      unfold Uv;rw[aM (λL_=>by
       obtain L_|⟨bo,q3,q4⟩:=L_.2;·cases L_
       injection q3 with q3
       subst q3;have q5:J (a.getD c []) > J (a.getD k []):=q4;rw[N_.o,O_.o]at q5;exact Z_ q5)])
    all_goals (
     generalize J a[c]=la at*;generalize J a[k]=lk at*;go_wp2_with fail
     refine Y7 (λs=>E s (A g<|l+c)=S (X a1 la c1)/\E s (A g<|l+k)=S (X a2 lk c2)) λhHeld=>?_;refine Xn 0 ?_;refine Xn 1 ?_;refine Xn 2 ?_;refine Xn 3 ?_;refine Xn 4 ?_;refine Xn 5 ?_;refine Xn 6 ?_;refine Xn 7 ?_;refine Xn 8 ?_;refine Xn 9 ?_;refine Xn 10 ?_;refine Xn 11 ?_;refine Xn 12 ?_;refine Xn 13 ?_;refine Xn 14 ?_;refine Xn 15 ?_;refine Xn 16 ?_;refine Xn 17 ?_;refine Xn 18 ?_;refine Xn 19 ?_;refine Xn 20 ?_;refine Xn 21 ?_;refine Yq ?_;go_wp2
     exact⟨⟨j+1,O,gM,by rw[T.o,q.o];rfl,Y f.drew,Y v.o⟩,SA⟩)
  have a5:j=J e:=O;subst a5;have aq:Q (oh (NI (λd=>J (a.getD d [])) b (e.take (J e)))=L0 a b):=Y (by unfold L0;rw[gC,ao.o]);rw[aq.o];have R_:=Y<|D9 Q_ v;have bm:=f.4;have az:Q (((Rg<|b+1).map (L0 a)).map (Si S6)=((Rg b).map (L0 a)).map (Si S6)++[H<|L0 a b]):=Y (by rw[dN];simp);generalize L0 a b=y at*;go_wp2_with (at_builtin;refine bT _ R _ _ 35 R (Z w.1) 2 i0 (H 0) 1 8 underlying35 a4 a7 a8 a9 R vY _ _ _ R (R_.alloc _) (A (Z wr.1) 0) 1 1 [H y] R R ?c1 ?c2 ?c3 ?c4 ?c5 ?_)
  case c1=>exact Yf _ _ _
  case c2=>intro u hu;simp at hu;subst hu;rfl
  case c3=>unfold maxLen;omega
  case c4=>omega
  case c5=>simp;omega
  intro v8 w8 aa Y_ a6 a0;have ad:=Y (Xy (Below.alloc f O _) Y_ (R_.alloc _) aA SB);have ar:Q (Sx w8 (Z w.1) 2 1 v8 (b+1) (((Rg<|b+1).map (L0 a)).map (Si S6))):=Y (by rw[az.o,jO];exact aa);clear aa Y_ a6 a0;go_wp2;exact⟨⟨b+1,O,gM,ad,ar⟩,SA⟩
 have a3:b=n:=O;subst a3;go_wp2;go_ret;exact⟨_,R,M_,Q_⟩
def PD(b:N):Wa:=(Rg b).filter λx=>x != 0
def Nt(b:N):Vp:=λi=>if i=0 then E2 (λ_=>0) (PD b)else λ_=>0
def N7(b:N):Vp:=λi=>if i<b then YH (λ_=>0) i else λ_=>0
theorem KW:XA (λ_=>0):=λ_=>(by decide:0<18446744073709551616)
theorem Dp:PD 1=[]:=R
theorem D8(h:n≠0):PD (n+1)=PD n++[n]:=by
 unfold PD;rw[dN,eU];simp[h]
theorem Ew:m∈PD n↔m<n/\m≠0:=by simp[PD]
theorem v9(b):XQ (Nt b):=λi=>by
 unfold Nt;split;·exact Zs _ KW
 exact KW
theorem vX(b):XQ (N7 b):=λi=>by
 unfold N7;split;·exact oV KW i
 exact KW
theorem EN(a:k<n):Xh (Nt n m) k=So↔m=0/\k≠0:=by
 unfold Nt;by_cases e:m=0
 .rw[aU e,YR,Z3,jU,bD,Ew];exact⟨λh=>⟨e,h.2⟩,λh=>⟨a,h.2⟩⟩
 rw[aM e,Z3];exact⟨λh=>(by cases h),λh=>Sz h.1 e⟩
theorem En(a:m<n):Xh (N7 n m) k=So↔k=m:=by
 unfold N7;rw[aU a,Z8,Z3,jU,bD]
theorem Cs:Nt 1=λi=>Nt 0 i:=by funext i;unfold Nt;rw[Dp];rfl
theorem Dz(h:n≠0):(λi=>if i=0 then E2 (Nt n 0) [n]else Nt n i)=Nt (n+1):=by
 funext i;unfold Nt;by_cases e:i=0
 .subst e;simp only[gG];rw[D8 h];unfold E2;rw[dT]
 simp only[aM e]
theorem Dt:(λi=>if i=n then E2 (N7 n n) [n]else N7 n i)=N7 (n+1):=by
 funext i;unfold N7;by_cases e:i=n
 .subst e;simp only[gG,Nat.lt_irrefl,fD];rw[aU<|iJ];rfl
 simp only[aM e];by_cases h:i<n;·rw[aU h,aU O]
 rw[aM h,aM O]
theorem cy.grown(h:cy n w m k B f F M)(b:w.grownBy v (S g))(c:m≠g)(d:∀i,i<k->f i≠g):cy n v m k B f F M :=
 ⟨h.1.of_block (b.5 _ h.1.lt λe=>c<|by injection e),λi a=>(h.2 i a).of_block (b.5 _ (h.2 i a).lt λe=>d i a<|by injection e),h.3,h.o⟩
theorem A5(Z_:Uy)(pc:N)(c0:N){P:List Wa}(L2 P_:N)(b3:Q (XR w L2 P_ Z_<|P.map Xi))(hs:Q (n=J P))(b0:Q (Xf w g i (S ⟨m,k,U⟩) (Xi s)))(h0:Q (B=J s))(hn:n<=1000)(l:0<n)(bv:B<=1000)(bx:0<B)(bo:i<=Z w.1)(bp:P_<=Z w.1)(ho:Q (∀b∈s,b<n))(b1:Q (∀ba∈P,J ba<=2000/\∀T∈ba,T<n)):
 Sk prog 202 #[X Z_ n pc,Hm m k B c0] w λe w'=>∃c j V,e=Rt (Hl c n n)/\Sw (Z w.1) w w'/\Ye w' c n ((n+63)/64) j V/\XQ V/\∀b,b<n->∀M,M<n->(Xh (V b) M=So↔Sp (Nt n) (N7 n) (·∈s) (λb=>P.getD b []) b M):=by
 have ca:(n+63)/64<=16:=O;have cb:n<=64*((n+63)/64):=O;have aj:=Y<|Th n n w hn O;have al:=Y λbn=>Th n n bn hn O;generalize (n+63)/64=K at*
 go_in
 go_wp2_with fail
 refine aj.mono ?_;rintro e w1⟨c,j,rfl,hG,a0,a4,a7⟩;have Q_:=Y a0;have N_:=Y a4;clear a0 a4 aj;go_wp2_with fail
 refine(al w1).mono ?_;rintro e L⟨y,p,rfl,b7,X_,a5,a8⟩;have ab:=Y<|Xg Q_ X_;have ap:=Y<|N_.keep X_;have ar:=Y a5;have b8:=N_.1.lt;have ad:=Y λa d=>(N_.2 a d).lt;have V_:=Y a7;have be:=Y Q_.4;have W_:=Y a8;clear X_ a5 al Q_ N_ a7 a8;go_wp2_with fail
 have S_:Q (∀a O_,a<n->O_<n->p a≠j O_):=Y (λa O_ d hj e=>by have:=ad O_ hj;have:=W_ a d;omega);have bd:Q (∀a,a<n->c≠p a):=Y (λa d e=>by have:=W_ a d;omega);have ac:Q (∀a,a<n->y≠j a):=Y (λa d e=>by have:=ad a d;omega);have af:Q (Ye L c n K j<|Nt 0):=Y (by
  have e:(λ_ _=>0:Vp)=Nt 0:=by funext a;unfold Nt;split<;>rfl
  rw[<-e];exact ap)
 have aq:Q (Ye L y n K p<|N7 0):=Y (by
  have e:(λ_ _=>0:Vp)=N7 0:=by funext a;unfold N7;rw[aM O]
  rw[<-e];exact ar)
 clear ap ar
 go_loopw [18] (λaa wr=>∃b:N,b<=n/\aa=H b/\Q (Sw (Z w.1) w wr)/\Q (Z L.1<=Z wr.1)/\Q (Ye wr c n K j<|Nt b)/\Q (Ye wr y n K p<|N7 b)) λaa _=>n-(intOf aa).toNat
 case atStart=>exact⟨0,aN,R,ab,Y<|aA,af,aq⟩
 obtain⟨b,hb,rfl,h,HZ,z,W⟩:=hrel;clear af aq ab;by_cases r:b<n
 .have k1:=W.1.cell r;have Y_:=z.1.cell l;go_wp2_with fail
  have C:Q (Xf (D wr<|.cells #[H b] 187) (Z wr.1) (Z wr.1+1) (S ⟨Z wr.1,0,U⟩) ([b].map Int.ofNat)):=Y<|UY wr b;have ao:Q (∀T∈[b],T<64*K):=Y (λT ht=>by
   have:T=b:=by simpa using ht
   omega)
  have u:=Y<|W.keep (Xb Rf (Sc #[H b] 187));have t:=Y<|z.keep (Xb Rf (Sc #[H b] 187));have o:=Y<|Xb h (Sc #[H b] 187);have b4:Z wr.1+1<=Z (D wr<|.cells #[H b] 187).1:=sP;have ce:=(W.2 b r).lt;have cc:=(z.2 0 l).lt;clear h z W k1 Y_;generalize D wr _=wa at*;refine(Tz (p b) K K 1 1 (N7 b b) _ [b] (Z wr.1) (Z wr.1+1) wa C (Y R) O ao O (Y<|vX b b) (Y<|u.2 b r) b4 O).mono ?_;rintro e f⟨rfl,F,a2⟩;have U_:Q (Ye f y n K p<|N7 (b+1)):=Y (by rw[<-Dt];exact u.wrote r F a2);have A_:=Y (t.grown F (bd b r) λa d e=>S_ b a r d e.symm);have R_:=Y (o.grown F o.4 λx e=>by cases e;have:=W_ b r;have:=be.o;omega);have az:Q (Z L.1<=Z f.1):=Y<|oP F.4 HZ.o;clear F a2 u t o C;by_cases q:b=0
  .have T_:Q (Ye f c n K j<|Nt (b+1)):=Y (by subst q;rw[Cs];exact A_);have bq:((b:I)==0)=So:=by simp[q]
   have br:((b:I) != 0)=Sn:=by simp[q]
   clear q;go_wp2;exact⟨⟨b+1,O,gM,R_,az,T_,U_⟩,SA⟩
  have bq:((b:I)==0)=Sn:=by simp[q]
  have br:((b:I) != 0)=So:=by simp[q]
  have Y_:=A_.1.cell l;go_wp2_with fail
  have C:Q (Xf (D f<|.cells #[H b] 187) (Z f.1) (Z f.1+1) (S ⟨Z f.1,0,U⟩) ([b].map Int.ofNat)):=Y<|UY f b;have u:=Y<|U_.keep (Xb Rf (Sc #[H b] 187));have t:=Y<|A_.keep (Xb Rf (Sc #[H b] 187));have o:=Y<|Xb R_ (Sc #[H b] 187);have b5:Z f.1+1<=Z (D f<|.cells #[H b] 187).1:=sP;have cd:=(A_.2 0 l).lt;clear R_ A_ U_ Y_;generalize D f _=wb at*;refine(Tz (j 0) K K 1 1 (Nt b 0) _ [b] (Z f.1) (Z f.1+1) wb C (Y R) O ao O (Y<|v9 b 0) (Y<|t.2 0 l) b5 O).mono ?_;rintro e w6⟨rfl,H_,a3⟩;have T_:Q (Ye w6 c n K j<|Nt (b+1)):=Y (by rw[<-Dz q];exact t.wrote l H_ a3);have bi:=Y (u.grown H_ (ac 0 l) λa d=>S_ a 0 d l);have bb:=Y (o.grown H_ o.4 λx e=>by cases e;exact V_ 0 l);have bm:Q (Z L.1<=Z w6.1):=Y<|oP H_.4 az.o;clear H_ a3 u t o C;go_wp2;exact⟨⟨b+1,O,gM,bb,bm,T_,bi⟩,SA⟩
 have bt:b=n:=O;subst bt;go_wp2_with fail
 refine(AC m k B c0 s g i Z_ b pc P L2 P_ c y b K j p (Nt b) (N7 b) wr (Y<|b0.keep (h.mono bo)) h0 bv bx (Y<|b3.keepS λx _ h2=>(h.mono bp).5 x h2) hs (Y hs.symm) O (oN h.4) (oN h.4) z W (Y<|v9 b) (Y<|vX b) (Y λa d b6=>by have:=V_ a d;omega) ac S_ ho b1).mono ?_;rintro e w7⟨rfl,v,V,a9,a6,a1⟩;have bc:Q (Sw (Z w.1) w w7):=Y ⟨G v.1 h.1,G v.2 h.2,G v.3 h.3,aJ h.4 v.4,λx hk=>G (v.5 x (oN h.4) λa d e=>by have:=V_ a d;omega) (h.5 x hk)⟩;have bh:=Y a6;have bl:=Y a9;have bf:=Y a1;clear v a9 a6 a1;go_wp2;go_ret;exact⟨c,j,V,R,bc,bh,bl,λc_ hc M hx=>bf c_ hc M O⟩
theorem Dj{F:Fn}(a:k<J F.2)(h:Jf F.1 (J F.2) F.2[k].3=Sn):J2 F=Sn:=JN a h
theorem AD(ha:Q (Xp w m k p x))(g:Q (n=J x))(T_:n<=1048576)(T:k<=Z w.1)(V:Q (T7 w)):
 Sk prog 107 #[Sa #[H t,X p n c]] w λe M=>e=Rt (Sb (J2 ⟨t,x⟩))/\Sw (Z w.1) w M:=by
 have Q_:∀u,Z (D w u).1=Z w.1+1:=λu=>sP
 go_in
 go_wp2
 go_loopw [9] (λs wr=>∃a:N,a<=n/\s=H a/\Sw (Z w.1) w wr/\Z w.1<Z wr.1/\E wr (A (Z w.1) 0)=S (H t)/\E wr (A (Z w.1) 1)=S (X p n c)/\Q ((x.take a).all (λv=>Jf t (J x) v.3)=So)) λs _=>n-(intOf s).toNat
 case atStart=>exact⟨0,aN,R,Xb Rf _,sP,sP,sP,R⟩
 obtain⟨a,R_,rfl,f,B,F,W,y⟩:=hrel;by_cases S_:a<n
 .have q:a<J x:=oN g.o;obtain⟨N_,u,rfl,⟨_,P_⟩,z⟩:=ha a q;let⟨W_,Y_,U_,V_,O_,e1,⟨e2,e3,e4,e5⟩,_,_⟩:=z.keep (f.mono T) O;have i:=Y<|V.keep f;have P:=Y λj=>Dj (F:=⟨t,x⟩) (k:=a) q j;have C:=Y λj=>XY (p:=λv:Xe=>Jf t (J x) v.3) q y j;rw[<-g.o]at C;clear z;generalize x[a]=L at*;have K:L.3=⟨L.3.1,L.3.a,L.3.3,L.3.4⟩:=R;have l:Q (Jf t n L.3=(Zu t 1 n ⟨L.3.1,L.3.a,L.3.3,L.3.4⟩&&!(L.3.1==2&&L.3.3==L.3.4))):=R;clear K;cases hr:Zu t 1 n ⟨L.3.1,L.3.a,L.3.3,L.3.4⟩
  .have d:=Y hr;clear hr;go_wp2_with fail
   refine(Kn ?q1).mono ?_
   case q1=>exact i.keep<|Xb (Xb Rf _) _
   rintro e h⟨rfl,b⟩;rw[Xw d];go_wp2;go_ret;exact⟨Xl (Xw P (by have e:=g.o;show Jf t (J x) L.3=Sn;rw[<-e,l.o,d.o];rfl)).symm,Xg (Xb (Xb f _) _) b⟩
  have d:=Y hr;clear hr;by_cases hq:L.3.1=2/\L.3.3=L.3.4
  .have q1:(L.3.1==2)=So:=by simp[hq.1]
   have q2:(L.3.3==L.3.4)=So:=by simp[hq.2]
   clear hq;go_wp2_with fail
   refine(Kn ?q1).mono ?_
   case q1=>exact i.keep<|Xb (Xb Rf _) _
   rintro e h⟨rfl,b⟩;rw[Xw d];have r:=b.4;simp at r;let⟨H_,I_⟩:=NC b;have L_:Z wr.1+1<Z h.1:=O;go_wp2;go_ret;exact⟨Xl (Xw P (by have e:=g.o;show Jf t (J x) L.3=Sn;rw[<-e,l.o,d.o,q1,q2];rfl)).symm,Xg (Xb (Xb f _) _) b⟩
  have J_:(L.3.1==2)=Sn\/((L.3.1==2)=So/\(L.3.3==L.3.4)=Sn):=by simp only[iS,iA];omega
  clear hq;obtain q1|⟨q1,q2⟩:=J_
  all_goals
   go_wp2_with fail
   refine(Kn ?q1).mono ?_
   case q1=>exact i.keep<|Xb (Xb Rf _) _
   rintro e h⟨rfl,b⟩;rw[Xw d];have r:=b.4;simp at r;let⟨H_,I_⟩:=NC b;have L_:Z wr.1+1<Z h.1:=O;go_wp2;have o:=Xg (Xb (Xb (Below.refl (Z wr.1) wr) _) _) b;exact⟨⟨a+1,O,gM,Xg f o,O,oB o F B,oB o W B,by
    have e:=g.o;rw[<-e];exact Xw C (by show Jf t n L.3=So;rw[l.o,d.o];first|rw[q1];rfl|rw[q1,q2];rfl)⟩,SA⟩
 go_wp2;go_ret;exact⟨Xl (YE (xs:=x) (k:=a) (oN g.o) y).symm,f⟩
def N5(w:Ub)(a m:N)(b:Wc):Prop:=∃f,w.rowIs a 2 m f/\∀i,i<m->f i=Si S6 (F5 b i:N)
theorem N5.below(h:N5 w n m l)(k:Sw (Z w.1) w v):N5 v n m l:=by
 let⟨f,a,b⟩:=h;exact⟨f,a.of_block<|k.5 _ a.lt,b⟩
theorem N5.lt(h:N5 w n m l):n<Z w.1:=by
 let⟨f,a,_⟩:=h;exact a.lt
theorem N5.cell(h:N5 w n m l)(b:k<m):E w (A n k)=S (H (F5 l k:N))/\w.frozen? (A n k)=Sn:=by
 let⟨f,a,c⟩:=h;exact⟨by rw[a.cell b,c k b],a.frozen k⟩
theorem AN:F5 (l++[t]) T=F5 l T+if t=T then 1 else 0:=by
 simp only[F5,eU,aQ];by_cases h:t=T<;>simp[h]
theorem WZ(a:Wc)(v:I):F5 a v<=J a:=fJ _ _
theorem N5.step(h:N5 w n m l)(d:t=((F5 l k:N):I)+1):N5 (Se w ⟨n,k,U⟩ (Si S6 t)) n m (l++[(k:I)]):=by
 let⟨f,a,b⟩:=h;refine⟨_,a.set k _,λi c=>?_⟩;rw[AN];by_cases e:i=k
 .subst e;simp[d]
 have e2:¬(k:I)=(i:I):=O;simp only[e,fD,e2,fW];exact b i c
theorem N5.born(w:Ub)(m:N):N5 (D w<|.cells (madeCells #[Si S6 0] m) 2) (Z w.1) m []:=⟨_,dG _ _ _ _,λi _=>by simp[F5]⟩
def wU(a:Wi)(m:N):Prop:=∀x∈a,(∀p∈x.1,0<=p.1/\p.1<(m:I))/\∀y∈x.2,1<=y.1/\y.1<=10/\(dB y.1=So->0<=y.2/\y.2<(m:I))
theorem WE(ha:Q (Xp w k B p x))(hx:Q (m=J x))(hn:m<=1048576)(hm:n<=2000)(hs:Q (Xx x<=1048576))(hB:B<=Z w.1)(hT:Q (Uw w))(hd:Q (wU x n)):
 Sk prog 110 #[Sa #[H n,X p m c]] w λz w'=>z=Rt (Sb (JM ⟨n,x⟩))/\Sw (Z w.1) w w':=by
 have a9:=fM (P:=prog) 35 2 (H 0) 8 underlying35 RH R S6 S6 n O O
 go_in
 go_wp2
 go_loopw [18] (λi wr=>∃a:N,a<=m/\i=H a/\Sw (Z w.1) w wr/\Q (N5 wr (Z w.1+1) n (BX<|x.take a))) λi _=>m-(intOf i).toNat
 case atStart=>exact⟨0,aN,R,Xb (Xb Rf _) _,by have:=N5.born (D w<|.cells #[H n,X p m c] 40) n;rw[aO]at this;exact this⟩
 obtain⟨a,hk,rfl,u,C⟩:=hrel;by_cases a8:a<m
 .have P:a<J x:=oN hx.o
  obtain⟨a2,bc,rfl,⟨_,a5⟩,O_⟩:=ha a P;have HC:=Y O_;have a1:Q (BX (x.take<|a+1)=BX (x.take a)++(XG x[a].1++XI x[a].2)):=by
   show _=_;rw[X7 P,U0];rfl
  have a6:J (BX<|x.take a)+(J x[a].1+JG x[a].1+J x[a].2)<=1048576:=by
   have M:=UX x<|a+1;rw[X7 P,Vm]at M;have h2:=KP<|x.take a;have g:=hs.o;have h4:ZZ x[a]=J x[a].1+JG x[a].1+J x[a].2:=R;omega
  have ba:J x[a].1<=1048576:=O;have a7:J x[a].2<=1048576:=O;let⟨ad,af⟩:=hd _<|aH P;have ao:=Y ad;have ap:=Y af;let⟨pa,pc,V,ic,e0,e1,⟨e2,e3,e4,e5⟩,hp,hi⟩:=O_.keep (u.mono hB) O;have W_:=Y hp;have U_:=Y hi;have r:=Y<|C.below (Xb (Below.refl (Z wr.1) wr) (Sc #[X pa (J x[a].1) pc,X V (J x[a].2) ic,H x[a].3.1,H x[a].3.a,H x[a].3.3,H x[a].3.4] 71));have a3:=C.lt;clear O_ HC ad af hp hi C;generalize hX:x[a]=K at*;clear hX;generalize BX (x.take a)=L at*;have bb:=u.4;go_wp2;generalize Y_:Z wr.1=M_ at*;have V_:=Y Y_;clear Y_ e0 e1 e2 e3 e4 e5
  go_loopw [25] (λi b=>∃j:N,j<=J K.1/\i=H j/\Sw (Z w.1) w b/\M_<Z b.1/\E b (A M_ 1)=S (X V (J K.2) ic)/\Q (N5 b (Z w.1+1) n (L++XG (K.1.take j)))/\Q (Jw b k B pa K.1)/\Q (YY b k B V K.2)) λi _=>J K.1-(intOf i).toNat
  case atStart=>
   have aq:=Xw V_;subst aq;exact⟨0,aN,R,Xb u _,sP,sP,by show N5 _ _ _ _;simpa [XG]using r.o,W_.keep (Xb (Below.refl (Z wr.1) wr) _ |>.mono O),U_.keep (Xb (Below.refl (Z wr.1) wr) _ |>.mono O)⟩
  clear r W_ U_ u V_;obtain⟨j,hj,rfl,e,F,ac,s,R_,h⟩:=hrel;have aj:=e.4;by_cases d:j<J K.1
  .obtain⟨b',o',rfl,⟨_,az⟩,aa,cc,L_,N_,_⟩:=R_ j d;have g:Q (L++XG (K.1.take<|j+1)=(L++XG (K.1.take j))++[K.1[j].1]):=by show _=_;rw[X7 d,Wj,cK]
   have hl:J (L++XG (K.1.take j))<=1048576:=by simp[XG];omega
   let⟨W,q1⟩:=ao _<|aH d;generalize K.1[j]=P_ at*;generalize L++XG (K.1.take j)=v at*;let⟨K_,ar⟩:=P_;dsimp only at W q1 L_ N_ g;obtain⟨t,rfl⟩:=bX W;have S_:t<n:=O;have f:=s.below<|Xb (Below.refl (Z wr.1) wr) (Sc #[H t,X aa (J ar) cc] 73);let⟨k0,T⟩:=f.cell S_;have a0:=WZ v t;have y:=Y f;clear f;generalize hQ:F5 v t=Q_ at*;have l:=Y hQ;clear hQ;go_wp2;refine⟨⟨j+1,O,gM,(Xb e _).setCell SG _,by rw[Xd];simp;omega,?_,?_,?_,?_⟩,SA⟩
   .rw[cJ<|by intro z;cases z;omega];exact oB (Xb (Below.refl (Z wr.1) wr) _) ac F
   .rw[g.o];exact y.step<|by rw[l.o]
   .exact R_.keepS<|(YA.of_below (Xb (Below.refl (Z wr.1) wr) _ |>.mono O)).setCell (aZ<|by dsimp only;omega) _
   exact h.keepS<|(YA.of_below (Xb (Below.refl (Z wr.1) wr) _ |>.mono O)).setCell (aZ<|by dsimp only;omega) _
  have o:=Y<|aW (l:=K.1) (i:=j) O;go_wp2
  go_loopw [40] (λi b=>∃j:N,j<=J K.2/\i=H j/\Sw (Z w.1) w b/\M_<Z b.1/\Q (N5 b (Z w.1+1) n (L++XG K.1++XI (K.2.take j)))/\Q (YY b k B V K.2)) λi _=>J K.2-(intOf i).toNat
  case atStart=>exact⟨0,aN,R,e,F,by have:=s.o;rw[o.o]at this;show N5 _ _ _ _;simpa [XI]using this,h⟩
  clear e F ac s R_ h o aj;obtain⟨j,hj,rfl,e,F,s,h⟩:=hrel;have aj:=e.4;by_cases d:j<J K.2
  .obtain⟨b',o',rfl,⟨_,az⟩,L_,N_,g2,g3,g4⟩:=h j d;have g:Q (L++XG K.1++XI (K.2.take<|j+1)=(L++XG K.1++XI (K.2.take j))++(if dB K.2[j].1 then [K.2[j].2]else [])):=by show _=_;rw[X7 d,Vx,<-cK]
   have hl:J (L++XG K.1++XI (K.2.take j))<=1048576:=by have:=TP<|K.2.take j;simp[XG]at this |-;omega
   let⟨W,q1,q2⟩:=ap _<|aH d;generalize K.2[j]=P_ at*;generalize L++XG K.1++XI (K.2.take j)=v at*;let⟨op,K_,pA,pB,pI⟩:=P_;dsimp only at W q1 q2 L_ N_ g2 g3 g4 g;obtain⟨H_,rfl⟩:=bX (show 0<=op by omega);have Z_:=hT.keep<|Xb e (Sc #[H H_,H K_,H pA,H pB,H pI] 59);let⟨bd,_,c1,_,_,_⟩:=Z_.2 H_ O O;have a4:0<Z wr.1:=O;have f:=s.below<|Xb (Below.refl (Z wr.1) wr) (Sc #[H H_,H K_,H pA,H pB,H pI] 59);clear Z_;cases hdb:dB H_
   .rw[hdb]at c1;have J_:=Y hdb;have y:=Y f;clear hdb f q2;go_wp2;refine⟨⟨j+1,O,gM,Xb e _,SB,?_,?_⟩,SA⟩
    .rw[g.o,J_.o];show N5 _ _ _ _;simpa using y.o
    exact h.keepS<|YA.of_below (Xb (Below.refl (Z wr.1) wr) _ |>.mono O)
   let⟨q3,q4⟩:=q2 hdb;rw[hdb]at c1;have J_:=Y hdb;obtain⟨t,rfl⟩:=bX q3;have S_:t<n:=O;let⟨k0,T⟩:=f.cell S_;have a0:=WZ v t;have y:=Y f;clear hdb f q2;generalize hQ:F5 v t=Q_ at*;have l:=Y hQ;clear hQ;go_wp2;refine⟨⟨j+1,O,gM,(Xb e _).setCell SG _,by rw[Xd];simp;omega,?_,?_⟩,SA⟩
   .rw[g.o,J_.o,aU R];exact y.step<|by rw[l.o]
   exact h.keepS<|(YA.of_below (Xb (Below.refl (Z wr.1) wr) _ |>.mono O)).setCell (aZ<|by dsimp only;omega) _
  have o:=Y<|aW (l:=K.2) (i:=j) O;go_wp2;exact⟨⟨a+1,O,gM,e,by have:=s.o;rw[o.o]at this;rw[a1.o,<-cK];exact this⟩,SA⟩
 have o:=Y<|aW (l:=x) (i:=a) (oN hx.o);have r:=C.o;rw[o.o]at r;have al:=Y r;clear r C;go_wp2
 go_loop [60] (λi=>∃j:N,j<=n/\i=H j/\Q (∀q,q<j->F5 (BX x) (q:N)=1)) λi=>n-(intOf i).toNat
 case atStart=>exact⟨0,aN,R,λq hq=>Sz hq O⟩
 obtain⟨j,hj,rfl,ab⟩:=hrel;by_cases d:j<n
 .let⟨k0,T⟩:=al.cell d;generalize hQ:F5 (BX x) (j:N)=Q_ at*;have l:=Y hQ;clear hQ T;by_cases M:Q_=1
  .subst M;go_wp2
   go_round
   case rel=>exact⟨j+1,O,gM,λq hq=>if z:q=j then by subst z;exact l else ab q O⟩
   simp[intOf];omega
  have h2:((Q_:I) != 1)=So:=by rw[jJ];omega
  have H1:=Y M;clear M;go_wp2;go_ret
  exact⟨Xl (by
   symm;unfold JM;rw[lZ];exact⟨j,by simpa using d,by simp only[l.o,iA];exact H1⟩),u⟩
 go_wp2;go_ret
 exact⟨Xl (by
  symm;unfold JM;rw[dV];intro q hq;rw[iA];exact ab q<|by simp at hq;omega),u⟩
theorem Vi(h:J2 ⟨t,x⟩=So):mp x (J x):=by
 intro a i;have d:Jf t (J x) a.3=So:=dV.1 h a i;simp only[Jf,Zu,bY,bD]at d;let⟨⟨⟨⟨⟨j,k⟩,l⟩,b⟩,f⟩,c⟩:=d;have g:a.3.1=1\/a.3.1=2\/a.3.1=3:=O;obtain e|e|e:=g
 .simp only[e,Tp]at b;simp[Yj.tg,e]at b |-;omega
 .simp only[e,Tp]at b f c;simp[Yj.tg,e]at b f c |-;refine⟨?_,c⟩;omega
 simp[Yj.tg,e]
theorem Ce(h:Z0 ⟨n,x⟩=So)(l:KL ⟨n,x⟩=So):wU x n:=by
 intro m d;constructor
 .intro p i;obtain⟨k,g,rfl⟩:=bR d;have a:=(Zr ZX ⟨n,x⟩ x 0).1 l k g;have b:=dV.1 a p i;simp only[ZX,Tp,bY,bD,gG]at b;exact b.1
 intro y j;have a:=dV.1 (dV.1 h m d) y j;simp only[Yw,bY,bD]at a;let⟨⟨⟨⟨⟨b,e⟩,c⟩,_⟩,_⟩,_⟩:=a;refine⟨b,e,λf=>?_⟩;rw[f]at c;simpa [Tp]using c
theorem V7:Xo x=J x+Xx x:=by
 induction x with
 |nil=>rfl
 |cons a x b=>
  have d:Xo (a::x)=Ul a+Xo x:=by simp[Xo]
  have e:Xx (a::x)=ZZ a+Xx x:=by simp[Xx]
  have f:XZ a.1=J a.1+JG a.1:=by
   generalize a.1=c
   induction c with
   |nil=>rfl
   |cons p c b=>simp only[XZ,JG,eH,kX,bA]at b |-;omega
  rw[d,e,b,bA];simp only[Ul,ZZ];omega
theorem FL(h:q∈x):J q.1+JG q.1+J q.2<=Xx x:=by
 induction x with
 |nil=>cases h
 |cons y a c=>
  have b:Xx (y::a)=ZZ y+Xx a:=by simp[Xx]
  obtain rfl|h:=cH.1 h;·rw[b];simp only[ZZ];omega
  have:=c h;omega
theorem Gm{a:Za}{p:Ph}(h:p∈a):J p.2<=JG a:=by
 induction a with
 |nil=>cases h
 |cons y b c=>
  have d:JG (y::b)=J y.2+JG b:=by simp[JG]
  obtain rfl|h:=cH.1 h;·omega
  have:=c h;omega
theorem ti(h:J x+Xx x<=1048576):Fv x:=λd b=>by
 have c:=FL b;exact⟨O,O,λp a=>by have:=Gm a;omega⟩
theorem JK(v:I)(y:Uy)(u c:N)(a:Wi)(V_ C:N)(w:Ub)(ha:Q (Xp w V_ C y a))(g:Q (u=J a))(t:Q (J a+Xx a<=1048576))(K:C<=Z w.1)(X_:Q (Uw w))(hT:Q (T7 w)):
 Sk prog 57 #[Sa #[H v,X y u c]] w λh w'=>h=Rt (Sb (XJ ⟨v,a⟩))/\Sw (Z w.1) w w':=by
 have l:u<=1048576:=oP g.o t.o;have M_:Xo a<=1048576:=by rw[V7];exact t
 have F:=Y<|ti t;have s:=λaj=>ha.keep<|(Xb (Below.refl (Z w.1) w) aj).mono K;have M:=Y M_;have o:Q (XJ ⟨v,a⟩=(Y6 ⟨v,a⟩&&J2 ⟨v,a⟩&&Z0 ⟨v,a⟩&&KL ⟨v,a⟩&&JM ⟨v,a⟩)):=R;cases h1:Y6 ⟨v,a⟩
 .have b:=Y h1;have r:=Y s
  go_in
  go_wp2_with fail
  refine(Uz (Xw r _) g l M SB).mono ?_;rintro h B⟨rfl,k⟩;rw[Xw b];go_wp2;go_ret;exact⟨Xl (by rw[o.o,b.o];rfl),Xg (Xb Rf _) k⟩
 have b:=Y h1;have r:=Y s;have O_:0<=v/\v<=2000:=by
  have j:=b.o;simp only[Y6,bY,bD]at j;omega
 obtain⟨p,rfl⟩:=bX O_.1;have hm:p<=2000:=O
 go_in
 go_wp2_with fail
 refine(Uz (Xw r _) g l M SB).mono ?_;rintro h B⟨rfl,k⟩;rw[Xw b];let⟨z,ad⟩:=NC k;have P_:E B (A (Z w.1) 0)=S (H p):=by rw[z _ _ sP];simp
 have R_:E B (A (Z w.1) 1)=S (X y u c):=by rw[z _ _ sP];simp
 have m:=Xg (Xb (Below.refl (Z w.1) w) _) k;have af:=k.4;simp at af;have P:=Y<|ha.keep (m.mono K);have Y_:=Y<|X_.keep m;have ab:=Y<|hT.keep m;have T:=Y m;go_wp2_with fail
 refine(AD P g l O ab).mono ?_;rintro h w2⟨rfl,d⟩;cases h2:J2 ⟨p,a⟩
 .have i:=Y h2;go_wp2;go_ret;exact⟨Xl (by rw[o.o,b.o,i.o];rfl),Xg T d⟩
 have i:=Y h2;have V:=Y<|Vi i;rw[<-g.o]at V;have Q_:=G (XU d O) P_;have S_:=G (XU d O) R_;have al:=d.4;have W:=Y<|P.keep (d.mono O);have L:=Y<|Y_.keep d;have E_:=Y<|Xg T d;go_wp2_with fail
 refine(W4 W g l (λx j=>(F x j).2.1) O L).mono ?_;rintro h w3⟨rfl,e⟩;cases h3:Z0 ⟨p,a⟩
 .have n:=Y h3;go_wp2;go_ret;exact⟨Xl (by rw[o.o,b.o,i.o,n.o];rfl),Xg E_ e⟩
 have n:=Y h3;have T_:=G (XU e O) Q_;have q1:=G (XU e O) S_;have ao:=e.4;have J_:=Y<|W.keep (e.mono O);have Z_:=Y<|L.keep e;have F_:=Y<|Xg E_ e;go_wp2_with fail
 refine(AG J_ g l (λx j=>⟨(F x j).1,(F x j).2.2⟩) O V).mono ?_;rintro h w4⟨rfl,f⟩;cases h4:KL ⟨p,a⟩
 .have q:=Y h4;go_wp2;go_ret;exact⟨Xl (by rw[o.o,b.o,i.o,n.o,q.o];rfl),Xg F_ f⟩
 have q:=Y h4;have r0:=G (XU f O) T_;have r1:=G (XU f O) q1;have ap:=f.4;have W_:=Y<|J_.keep (f.mono O);have aa:=Y<|Z_.keep f;have U_:=Y<|Xg F_ f;go_wp2_with fail
 refine(WE W_ g l hm (show Xx a<=1048576 by have:=t.o;omega) O aa (Ce n q)).mono ?_;rintro h w5⟨rfl,ac⟩;go_wp2;go_ret;exact⟨Xl (by rw[o.o,b.o,i.o,n.o,q.o];simp),Xg U_ ac⟩
section
attribute [local go_sem] Oper.semAt_some
theorem uy(cs Bx ch b5:N)(O_:Vv)(Pd:N×Wc×Wc->Prop)(x:Xe)(L:Ub)(v:Q (UI x ch b5 Bx cs (Z L.1) L))(hM:Q (∀k,ch<=k->k<b5->¬O_ k))(bp:Q (¬O_ Bx))(a8:Q (∀k,Z L.1<=k->¬O_ k))(dl:Q (¬O_ 0))(dn:Q (¬O_ 1))(gt:Q (∀et∈x.2,1<=et.1/\et.1<=13))(hr:1<=x.3.1/\x.3.1<=3)(ho:J x.2<=4000)(hp:J x.1<=4000)(ci:Q (∀q∈NS x,Pd q)):
 lf Fence.wide 7 prog 159 #[Hn Bx] (λ_=>pf) (λ_=>og (Z L.1) Pd) (Zf cs O_) (λu=>u.map Pl.dat=NS x) (λu=>u.map Pl.dat <+: NS x) (J x.2+2) False False L:=by
 intro n J0 Jx W hW hl hJ dj _ _ hY h0;have HY:=Y λh x V=>hY (Z W.1) h x V<|aA;have X_:=Y<|hJ (Z W.1);have H0:=Y λV=>h0 (Z W.1) V<|aA;have HE:Q (∀u V,u.map Pl.dat=NS x->J0 (Z W.1) u V->(∃eu u,Z W.1<=eu/\u.map Pl.dat=NS x/\J0 eu u V)\/∃h,h.map Pl.dat <+: NS x/\Jx h V):=Y λu V f i=>.inl ⟨_,u,aA,f,i⟩;have cc:=Y dj;clear hY hJ h0 dj;generalize J0 (Z W.1)=f5 at HY X_ H0 HE;have bc:=hW.4;have fs:=Y<|v.below hW aA;refine callsIn_of_wp_marks func159 R trivial ?_ R;simp only[ntmps159,xY,Nat.reduceAdd,Nat.reduceSub];gi_wp2;have gb:(λx9:Ub=>Q (Sw (Z W.1) W x9)/\E x9 (A (Z W.1) 0)=S (.func (.yield n) #[] #[])/\Z x9.1=Z W.1+1) (D W<|.cells #[.func (.yield n) #[] #[]] 260):=⟨Y<|Xb Rf _,SC,sP⟩;generalize D W _=wa at*;obtain⟨cw,b4,h8⟩:=gb;have cf:=Y<|fs.below cw.o bc;obtain⟨pa,pc,Q_,ic,e0,e1,t0,gz,gl⟩:=cf.3;simp only[aV]at e1 t0;clear e0 gz gl;obtain⟨k,hk⟩:=bX (show 0<=x.3.1 by omega);have gp:1<=k:=O;have gq:k<=3:=O;have HT:Q (Va wa Bx 2 ⟨(k:I),x.3.a,x.3.3,x.3.4⟩):=Y (by rw[<-hk];exact t0);have M:=Y<|BY wa.drew (Y HT.o) gp gq (Y cf.2);have eo:Id ⟨(k:I),x.3.a,x.3.3,x.3.4⟩=Id x.3:=by unfold Id;simp only;rw[<-hk]
 rw[eo]at M;have da:Q (J (Id x.3)<=1):=Y (by unfold Id;split<;>simp);clear eo t0;obtain⟨d,cq⟩:∃d,d=Id x.3:=⟨_,R⟩;rw[<-cq]at M da;have aq:=Y cq;clear cq;have hx:S6.wrap ((J x.2:I)+1)=(J x.2:I)+1:=by rw[dF];omega
 refine Tc (λB=>E B (A (Z W.1) 0)=S (.func (.yield n) #[] #[])/\E B (A Bx 1)=S (X Q_ (J x.2) ic)) λhHeld=>?_;refine Yi 0 ?_;refine Yi 1 ?_;refine Yi 2 ?_;refine Yi 3 ?_;refine Yi 4 ?_;refine Yi 5 ?_;refine Yc 6 λN_ hK=>?_;go_simp;refine⟨trivial,(bM.2 M.o).mono ?_⟩;rintro e w5⟨v5,rfl,af,em⟩;obtain⟨a5,c5,rfl,ed⟩:=Xk em;have br:Sw (Z wa.1) wa w5:=⟨af.1,af.2,af.3,af.4,af.5⟩;have ct:=Y br;have y5:=G (XU br O) b4;have i5:=oB br e1 (by have:=v.4;show Bx<_;omega);have e6:Q (Xf w5 (Z wa.1) (Z w5.1) a5 d):=Y ed;have M_:=Y<|Yz (J d) c5 e6 (Y R) (oN da.o) aA;clear af em ed M br;refine hK _ _ ⟨y5,i5⟩ λhHeld=>?_;clear hK;refine Yc 7 λN_ hK=>?_;go_simp;refine⟨trivial,(bM.2 M_.o).mono ?_⟩;rintro e w6⟨a6,c6,rfl,cj,ee⟩;have aj:=Y<|Xg ct.o cj;have y6:=G (XU aj.o O) b4;have i6:=oB aj e1 (by have:=v.4;show Bx<_;omega);have e7:=Y ee;have h6:=aj.4;have h7:=cj.4;have h5:=ct.4;clear cj ee M_ y5 i5;refine hK _ _ ⟨y6,i6⟩ λhHeld=>?_;clear hK;refine Yi 8 ?_;have fr:=Y<|cf.below aj.o O;have fa:=Y<|H0.o w6 O (Xg cw.o aj.o);obtain⟨fn,tmps,df,bo,P_,r⟩:=HY.o [] ⟨J x.2+1,a6,c6,d,U,0,[]⟩ w6 fa.o ⟨ci.o _ (by show((J x.2+1:N),d,([]:Wc))∈NS x;rw[aq.o];exact cI),e7.mono O<|aA,λl hi=>Sz hi sP⟩ sP;have P:(Instr.yield n #[H<|(J x.2:I)+1,Sa #[X a6 (J d) c6,Hq]]).run prog w6=_:=P_;clear P_;refine Yc 9 λN_ hK=>?_;go_simp;refine r.mono ?_;rintro e p (⟨rfl,ar,z,bx⟩|⟨rfl,ar,z,bx⟩);rotate_left
 .have b8:=Y ar;have C:=z.cell y6<|a8.o _ bc;have i3:=z.cell i6 bp.o;clear ar z bx P r;refine hK _ _ ⟨C,i3⟩ λhHeld=>?_;clear hK hHeld;have hHeld:(λB:Ub=>E B (A (Z W.1) 0)=S (.func (.yield n) #[] #[])/\E B (A Bx 1)=S (X Q_ (J x.2) ic)) p:=⟨C,i3⟩;refine Yi 10 ?_;refine ZV ?_;clear hHeld y6 i6 b4 e1;gi_wp2;exact⟨St #[],gV R _ _ _,⟨_,R⟩,.inr ⟨_,by show[((J x.2+1:N),d,([]:Wc))] <+: NS x;rw[aq.o];exact⟨_,R⟩,b8.o⟩⟩
 have b8:=Y ar;have hd:=Y z;have hb:=Y bx;have fj:=Y<|fr.kp z hM.o bp.o dl.o dn.o;have C:=z.cell y6<|a8.o _ bc;have i3:=z.cell i6 bp.o;have hz:=z.1;clear ar z bx P r;refine hK _ _ ⟨C,i3⟩ λhHeld=>?_;clear hK hHeld
 try simp only[xX]
 have hHeld:(λB:Ub=>E B (A (Z W.1) 0)=S (.func (.yield n) #[] #[])/\E B (A Bx 1)=S (X Q_ (J x.2) ic)) p:=⟨C,i3⟩;refine Yi 10 ?_;refine ZV ?_;clear hHeld y6 i6 b4 e1;gi_wp2;refine⟨trivial,(V6 Fence.wide 6 trivial R Q_ (J x.2) ic p).mono ?_⟩;rintro e K⟨rfl,b3⟩;have w:Sw (Z p.1) p K:=by rw[b3];exact Xb Rf _
 have er:Z K.1=Z p.1+1:=by rw[b3];simp
 have ep:E K (A (Z p.1) 0)=S (X Q_ (J x.2) ic):=by rw[b3];simp[go_sem]
 have dc:=Y<|fj.below w O;have e9:=Y<|XO X_.o b8.o w;have y4:=G (XU w O) C;have ev:=Y w;have I3:=Y i3;clear b3 w C i3;have fl:=Y ep;have he:=Y er;have g5:Z W.1<Z K.1:=O;have fx:Q (Z p.1<Z K.1):=Y O;have L_:Q (Z L.1<=Z K.1):=Y O;have fz:=Y y4;clear ep er y4;gi_wp2
 have gd:¬O_ (Z p.1):=a8.o _ O;refine wpIn_rangeFunc_ownH (F:=Fence.wide) (n:=7) R vY (gf:=192) (lb:=#[Hn (Z p.1)]) R trivial (enters_of func192 vZ R) (VE Fence.wide 6 trivial R vY O_ O v.5 hM.o gd (aJ v.8 L_.o) fx.o fl.o (Y ?inss)) (λF k=>F.trans k) (λV R_ o o' f i g _=>Zf.putObj V R_ o o' (aJ v.8<|aJ L_.o f) i g) Rf (λ_=>R)
  (λh V=>∃a:List Pl,a.map Pl.dat=(J x.2+1,d,[])::h.map (VH x)/\f5 a V/\UI x ch b5 Bx cs (Z L.1) V/\E V (A (Z W.1) 0)=S (.func (.yield n) #[] #[])/\Z K.1<=Z V.1)
  (λc_ h V=>c_=.ret/\∃a:List Pl,a.map Pl.dat=(J x.2+1,d,[])::h.map (VH x)/\Jx a V)
  ?ownI ?ownX ?start
  (λj a' V=>∃b,a'=⟨#[.func (.yield n) #[] #[],Hn Bx,Hn (Z W.1),H ((j:N):I),Hn b,Su,Su,Su,.func (.yield n) #[] #[],Ho Bx 1,X Q_ (J x.2) ic,H (J x.2:I),H<|(J x.2:I)+1,Ho Bx 2,X a5 (J d) c5,X a6 (J d) c6,Sa #[X a6 (J d) c6,Hq],Sb So,Sb Sn,Ho Bx 1,X Q_ (J x.2) ic,.func (.func 192) #[] #[Hn (Z p.1)],H ((j:N):I),mj x.2[j],Su,Su,Su,Su,Su,Su,Su,Su,Su,Su,Su,Su,Su,Su,Su,Su,Su,Su,Su,Su,Su,Su,Su,Su,Su,Su,Su,Su,Su],[]⟩/\Z K.1<=b/\Jk V b 0 x.2[j]) ?ownA ?assign ?body ?done ?stop
 case inss=>
  obtain⟨g7,g8,es,g6,_,f1,_,_,f4⟩:=dc.3;simp only[aV]at f1;have gi:es=Q_:=by
   have g:=oB ev I3.o (by show Bx<_;have:=v.4;omega);rw[f1]at g;injection g with g;injection g
  rw[<-gi];exact f4
 case ownI=>
  rintro h S_ V row⟨a,m,T,c,t,p5⟩ k q;have dz:∀l,l<Z K.1->V.1[l]?=S_.1[l]?:=λl hi=>k.5 l O (λe=>by have:=(q l e.symm).1;omega);refine⟨a,m,X_.o a S_ V row T k λbd e=>⟨oN<|(q bd e).1,(q bd e).2⟩,c.same (λl hi=>dz l<|aX hi L_.o) k.4,?_,aJ p5 k.4⟩;exact G (Xc<|dz _ g5) t
 case ownX=>
  rintro c_ h S_ V row⟨rfl,a,p0,m⟩ k q;exact⟨R,a,p0,cc.o a S_ V row m k λbd e=>⟨oN<|(q bd e).1,(q bd e).2⟩⟩
 case start=>exact⟨[⟨J x.2+1,a6,c6,d,U,0,[]⟩],R,e9.o,dc.o,fz.o,aA⟩
 case ownA=>
  rintro j a' _ S_ V row⟨b,e,dw,y⟩ k q;have gf:V.1[b]?=S_.1[b]?:=by
   obtain⟨o,f,i⟩:=Yn y.1;refine k.5 b (aS.1 f).1 λe=>?_;obtain⟨_,o2,g,h4⟩:=q b e.symm;rw[show S_.1[b]?=S o from f]at g;injection g with g;subst g;rw[i]at h4;cases h4
  have s:=λo=>Xc (o:=o) gf;exact⟨b,e,dw,G (s _) y.1,G (s _) y.2.1,G (s _) y.2.2.1,G (s _) y.2.2.2.1,G (s _) y.2.2.2.2⟩
 case assign=>
  intro R_ h j V N_ hI hK;have HI:=Y hI;have fb:=Y hK;clear hI hK;unfold mj;gi_wp2;have Y_:Sw (Z V.1) V (D V<|.cells #[H x.2[j].1,H x.2[j].2,H x.2[j].a,H x.2[j].b,H x.2[j].5] 59):=Xb Rf _;obtain⟨a,m,T,c,t,p5⟩:=HI.o;refine fb.o _ _ ⟨Y_.4,λk o _ f _=>G (Y_.5 k (aS.1 f).1) f⟩ (Zf.of_below Y_<|oP L_.o v.8) ⟨a,m,XO X_.o T Y_,c.below Y_<|oN L_.o,oB Y_ t O,aJ p5 Y_.4⟩ ⟨Z V.1,R,p5,?_⟩;exact⟨by simp[go_sem],SC,SC,SC,SC⟩
 case body=>
  rintro R_ h j a' V hm _⟨a,m,T,c,t,p5⟩ ⟨b,rfl,dw,y⟩ hn;have D_:=Y m;have cd:=Y T;have bm:=Y c;have gs:=gt.o x.2[j] (aH _);obtain⟨kk,b0⟩:=bX (show 0<=x.2[j].1 by omega);have eg:1<=kk:=O;have ei:kk<=13:=O;have ge:b<Z V.1:=aI V _ y.1;have ab:Q (Jk V b 0 ⟨(kk:I),x.2[j].2,x.2[j].a,x.2[j].b,x.2[j].5⟩):=Y (by rw[<-b0];exact y);have en:Iw ⟨(kk:I),x.2[j].2,x.2[j].a,x.2[j].b,x.2[j].5⟩=Iw x.2[j]:=by rw[<-b0]
  have eq:BW ⟨(kk:I),x.2[j].2,x.2[j].a,x.2[j].b,x.2[j].5⟩=BW x.2[j]:=by rw[<-b0]
  have M:=Y<|vf b kk x.2[j].2 x.2[j].a x.2[j].b x.2[j].5 V.drew (Y ab.o) eg ei (Y bm.1);have bn:Q (∀V',Sw (Z V.1) V V'->_):=Y (λV' (hV:Sw (Z V.1) V V')=>UH b x.2[j].2 x.2[j].a x.2[j].b x.2[j].5 V' (Y (by
   have s:=λo=>hV.cell (p:=A b o) ge
   exact⟨G (s _) ab.1,G (s _) ab.2.1,G (s _) ab.2.2.1,G (s _) ab.2.2.2.1,G (s _) ab.2.2.2.2⟩)) eg ei (Y (bm.below hV<|oN L_.o).1))
  rw[en]at M;simp only[eq]at bn;obtain⟨ui,b1⟩:∃I_,I_=Iw x.2[j]:=⟨_,R⟩;obtain⟨di,bv⟩:∃I_,I_=BW x.2[j]:=⟨_,R⟩;rw[<-b1]at M;simp only[<-bv]at bn;have cg:=Y b1;have b6:=Y bv;have hs:J ui<=2:=by rw[b1];exact oU _
  have hg:J di<=1:=by rw[bv];unfold BW;split<;>simp
  clear b1 bv en eq y m T c b0 gs;have ce:Q (J a<J x.2+1):=Y (by
   have F:=fI List.length D_.o;simp at F;omega)
  have hw:S6.wrap (((j:N):I)+1)=((j:N):I)+1:=by have:=j.2;rw[dF];omega
  gi_wp2;refine Tc (λB=>E B (A (Z W.1) 0)=S (.func (.yield n) #[] #[])) λhHeld=>?_;refine Yi 0 ?_;refine Yi 1 ?_;refine Yi 2 ?_;refine Yc 3 λN_ hK=>?_;go_simp;refine⟨trivial,(CallsIn.inRound R_<|bM.2 M.o).mono ?_⟩;rintro e V1⟨v1,rfl,ad,ek⟩;obtain⟨a1,c1,rfl,d0⟩:=Xk ek;have aa:Q (Sw (Z V.1) V V1):=Y ⟨ad.1,ad.2,ad.3,ad.4,ad.5⟩;have cz:Q (Xf V1 (Z V.1) (Z V1.1) a1 ui):=Y d0;have y1:=G (XU aa.o O) t;have M_:=Y<|Yz (J ui) c1 cz (Y R) O aA;clear ad ek d0 M;refine hK _ _ y1 λhHeld=>?_;clear hK;refine Yc 4 λN_ hK=>?_;go_simp;refine⟨trivial,(CallsIn.inRound R_<|bM.2 M_.o).mono ?_⟩;rintro e V2⟨a2,c2,rfl,ds,ea⟩;have bf:=Y<|Xg aa.o ds;have c7:=Y<|ea.mono aa.4 aA;have y2:=G (XU bf.o O) t;have dd:=Y<|bn.o V2 bf.o;clear ds ea M_ bn y1 cz aa;refine hK _ _ y2 λhHeld=>?_;clear hK;refine Yc 5 λN_ hK=>?_;go_simp;refine⟨trivial,(CallsIn.inRound R_<|bM.2 dd.o).mono ?_⟩;rintro e V3⟨v3,rfl,bq,el⟩;obtain⟨a3,c3,rfl,eb⟩:=Xk el;have c8:=Y<|(c7.keep bq).mono aA bq.4;have bh:=Y<|Xg bf.o bq;have c9:=Y eb;have C:=G (XU bh.o O) t;have M_:=Y<|Yz (J di) c3 c9 (Y R) O aA;clear bq el eb dd y2 bf c7 c9;refine hK _ _ C λhHeld=>?_;clear hK;refine Yc 6 λN_ hK=>?_;go_simp;refine⟨trivial,(CallsIn.inRound R_<|bM.2 M_.o).mono ?_⟩;rintro e V4⟨a4,c4,rfl,w,ec⟩;have ey:=Y<|(c8.keep w).mono aA w.4;have U_:=Y<|Xg bh.o w;have ez:=Y<|ec.mono bh.4 aA;have y4:=G (XU U_.o O) t;clear w ec M_ C bh c8;refine hK _ _ y4 λhHeld=>?_;clear hK;refine Yi 7 ?_;have ac:Z L.1<=Z V.1:=oN L_.o;have fq:=Y<|bm.below U_.o ac;obtain⟨fn,tmps,df,bo,P_,r⟩:=KY (l':=R_) (m':=4) (HY.o a ⟨(j:N)+1,a2,c2,ui,a4,c4,di⟩ V4 (XO X_.o cd.o U_.o) ⟨ci.o _ (by have F:=t6 x j;unfold VH at F;rw[<-cg.o,<-b6.o]at F;exact F),ey.mono ac<|aA,ez.mono ac<|aA⟩ (oN ce.o));have P:(Instr.yield n #[H<|((j:N):I)+1,Sa #[X a2 (J ui) c2,X a4 (J di) c4]]).run prog V4=_:=P_;clear P_;refine Yc 8 λN_ hK=>?_;go_simp;refine r.mono ?_;rintro e V5 (⟨rfl,az,Z_,a9⟩|⟨rfl,az,Z_,a9⟩);rotate_left
  .have y5:=Z_.cell y4<|a8.o _ bc;have ca:=Y az;have bl:=Y Z_;have b7:=Y a9;clear az Z_ a9 P r;refine hK _ _ y5 λhHeld=>?_;clear hK;refine Yi 9 ?_;refine ZV ?_;gi_wp2;have bb:=(Zf.of_below U_.o<|aJ v.8 ac).trans bl.o;refine⟨⟨bb.1,λk o f i g=>b7.2 k o O (G (U_.5 k (aS.1 i).1) i) g⟩,R,a++[⟨(j:N)+1,a2,c2,ui,a4,c4,di⟩],?_,ca.o⟩;rw[bG,D_.o,bG];show _=(J x.2+1,d,[])::(h.map (VH x)++[VH x j]);rw[<-cW];congr 1;unfold VH Pl.dat;simp only[eH,fZ];rw[cg.o,b6.o]
  have y5:=Z_.cell y4<|a8.o _ bc;have ca:=Y az;have bl:=Y Z_;have b7:=Y a9;clear az Z_ a9 P r;refine hK _ _ y5 λhHeld=>?_;clear hK
  try simp only[xX]
  refine Yi 9 ?_;refine ZV ?_;gi_wp2;have bb:=(Zf.of_below U_.o<|aJ v.8 ac).trans bl.o;refine⟨⟨bb.1,λk o f i g=>b7.2 k o O (G (U_.5 k (aS.1 i).1) i) g⟩,bb,a++[⟨(j:N)+1,a2,c2,ui,a4,c4,di⟩],?_,ca.o,fq.kp bl.o hM.o bp.o dl.o dn.o,y5,aJ p5 bb.1⟩;rw[bG,D_.o,bG];show _=(J x.2+1,d,[])::(h.map (VH x)++[VH x j]);rw[<-cW];congr 1;unfold VH Pl.dat;simp only[eH,fZ];rw[cg.o,b6.o]
 case done=>
  rintro be ys V hD rfl⟨a,m,T,c,t,p5⟩ a7;have D_:=Y m;have cd:=Y T;have bm:=Y c;have ao:=Y a7;have fe:=Y t;obtain⟨g7,g8,es,g6,f0,f1,_,f3,_⟩:=c.3;have fi:=Y f3;have ga:Bx<Z V.1:=aI V _ f0;have f7:=λo=>G (bP V o (A Bx 0) ga) f0;have gv:Z W.1<Z V.1:=O;clear f1 f3 m T c a7 f0 t;obtain⟨i0,gh,g0,g3,g4⟩:=fX RF;gi_wp2;clear f7
  gi_loopw [38] (λl wr=>∃k:N,k<=J x.1/\l=H k/\Q (Sw (Z V.1) V wr)/\E wr (A (Z V.1) 0)=S Hq/\wr.frozen? (A (Z V.1) 1)=Sn/\∃I_,E wr (A (Z V.1) 1)=S I_/\Q (Sx wr (Z V.1+1) 119 1 I_ k (((x.1.map Ph.dst).take k).map (Si S6)))) λl _=>J x.1-(intOf l).toNat
  case atStart=>exact⟨0,aN,R,Y<|Xb Rf _,SC,SC,Hq,SC,Y<|dA⟩
  obtain⟨k,hh,rfl,T_,c0,z1,I_,c1,HO⟩:=hrel;by_cases ej:k<J x.1
  .obtain⟨f6,o,rfl,hf,ap,cp,f,i,_⟩:=fi.o k ej;have du:f6<Z V.1:=aI V _ f;have g1:=oB T_ f du;have g2:=oB T_ i du;have HN:Q ((x.1.map Ph.dst).take (k+1)=(x.1.map Ph.dst).take k++[x.1[k].1]):=Y (by rw[X7<|by simpa using ej];simp);have co:Z V.1<Z wr.1:=aI wr _ c0;clear f i;generalize x.1[k]=ph at*;generalize (x.1.map Ph.dst).take k=dk at*
   gi_wp2_with (gi_at_builtin;refine wpListIn_append_own _ R _ _ 196 R (Z V.1+1) 119 i0 (H 0) 1 8 underlying196 gh g0 g3 g4 R vY _ _ _ R ((HO.alloc _).alloc _) (A (Z wr.1+1) 0) 1 1 [H ph.1] R R ?c1 ?c2 ?c3 ?c4 ?c5 ?_)
   case c1=>
    intro j I_ hj
    match j,hj with
    |0,hj=>simp at hj;subst hj;simp[Addr.add,go_sem]
   case c2=>intro I_ hu;simp at hu;subst hu;rfl
   case c3=>unfold maxLen;omega
   case c4=>omega
   case c5=>simp;omega
   intro v1 w1 cn ck _;obtain⟨av,cv,hv,_⟩:=Xk (xs:=dk++[ph.1]) (by rw[Yl];exact cn);have HV:=Y hv;have db:=Y cn;have aa:=Y (Xy (Xb (Xb T_.o _) _) ck ((HO.alloc _).alloc _) O (by have:=T_.4;simp;omega));have bt:=YJ ck ((HO.alloc _).alloc _) (b:=Z V.1) O SB;have k0:=G (Xc bt) (oB (Xb (Xb (Below.refl (Z wr.1) wr) _) _) c0 co);have k1:=G (Xc bt) (oB (Xb (Xb (Below.refl (Z wr.1) wr) _) _) c1 co);have kz:w1.frozen? (A (Z V.1) 1)=Sn:=by
    rw[bJ (a:=(A (Z V.1) 1)) bt];exact G ((Xb (Xb (Below.refl (Z wr.1) wr) _) _).frozen (p:=A (Z V.1) 1) co) z1
   clear cn ck bt c0 c1 z1;rw[hv];clear hv;gi_wp2;have cr:=HV.o;rw[aQ,bA,bO,aV]at cr;rw[<-cr];clear cr;refine⟨⟨k+1,O,gM,Y<|aa.setCell aA _,?_,?_,v1,?_,Y ?_⟩,SA⟩;·exact G (@cJ w1 (A (Z V.1) 1) (A (Z V.1) 0) v1 sP) k0
   .exact G (eX _ _ _ _) kz
   .exact iL w1 _ v1<|by rw[k1];rfl
   rw[HN.o,Yl];exact db.kept (row:=S (Z V.1)) ⟨R,R,R,SH,λk _ hk=>Below.heap_setCell _ _ _ _ λe=>hk<|by rw[e]⟩ (aZ λe=>by have:=(db.lt _ e).1;omega)
  have gr:k=J x.1:=O;subst gr;have cm:=HO.o;rw[aW sP]at cm;obtain⟨av,cv,rfl,ef⟩:=Xk cm;have e8:=Y ef;have ac:Z L.1<=Z V.1:=oN L_.o
  have gg:=(aS.1 ao.o).1;have cx:=Y<|G (T_.5 be gg) ao.o;have yr:=oB T_ fe.o gv;have ce:Q (J a=J x.2+1):=Y (by
   have F:=fI List.length D_.o;simp[Vf]at F;omega)
  clear cm ef;obtain⟨fn,tmps,df,bo,P_,r⟩:=HY.o a ⟨0,U,0,[],av,cv,x.1.map Ph.dst⟩ wr (XO X_.o cd.o T_.o) ⟨ci.o _<|tE x,λl hi=>Sz hi sP,e8.mono O<|aA⟩ (oN ce.o);have P:(Instr.yield n #[H 0,Sa #[Hq,X av (J (x.1.map Ph.dst)) cv]]).run prog wr=_:=P_;rw[bK]at P c1;clear P_;gi_wp2;refine r.mono ?_;rintro e V9 (⟨rfl,a0,cl,ba⟩|⟨rfl,a0,cl,ba⟩);rotate_left
  .have cb:=Y a0;have al:=Y<|ba.2 be _ O cx.o R;clear a0 cl ba P r;gi_wp2;refine YK al.o ⟨St #[],gV R _ _ _,⟨_,R⟩,.inr ⟨a++[⟨0,U,0,[],av,cv,x.1.map Ph.dst⟩],?_,cc.putObj _ cb.o O al.o R⟩⟩;rw[bG,D_.o,aq.o];exact mD _
  have cb:=Y a0;have al:=Y<|ba.2 be _ O cx.o R;clear a0 cl ba P r;gi_wp2;refine YK al.o ⟨St #[],gV R _ _ _,⟨_,R⟩,HE.o (a++[⟨0,U,0,[],av,cv,x.1.map Ph.dst⟩]) _ ?_ (X_.putObj _ cb.o O al.o R)⟩;rw[bG,D_.o,aq.o];rfl
 rintro be c_ h V hD⟨q,hq⟩ ⟨rfl,a,p0,m⟩ a7;have fc:=Y p0;have HQ:=Y hq;clear p0 hq;have D_:=Y m;have ao:=Y a7;clear m a7;gi_wp2;refine YK ao.o ⟨St #[],gV R _ _ _,⟨_,R⟩,.inr ⟨a,?_,cc.putObj _ D_.o O ao.o R⟩⟩;rw[fc.o,aq.o,HQ.o];obtain⟨g9,ht⟩:=Bu (J x.2) q;refine⟨g9.map (VH x)++[(0,[],x.1.map Ph.dst)],?_⟩;unfold NS;rw[cW,<-cK,<-bG,ht]
end
theorem lf.seqN{c:Type}{F:Fence}{i:c->Zh}{g:c->Vy}{d:Ub->Vy}{K Sp:List c->Prop}(h:lf F n R_ m E_ (λ_=>i) (λ_=>g) d K Sp k False False w):pp F n R_ m E_ i g d K k w:=by
 intro L M W q t j r o;refine(h L (λ_=>M) (λ_ _=>False) W q t (λ_=>j) (λ_ _ _ _ h _ _=>h) (λf=>f.elim) (λf=>f.elim) (λz l B V _ b v u=>(r l B V b v u).mono λe P h=>bC h) λz V _ _ a=>j [] W V U o ⟨a.1,a.2,a.3,a.4,λy s _=>a.5 y s⟩ λT e=>by cases e).mono ?_;rintro e V⟨x,⟨z,C,_,p,b⟩|⟨l,_,f⟩⟩;·exact⟨x,C,p,b⟩
 exact f.elim
theorem BM{Bx:N}(a:Vv)(c:N×Wc×Wc->Prop)(b:Q (P0 q n m Bx (Z w.1) w))(d:Q (∀k,n<=k->k<m->¬a k))(h:Q (¬a Bx))(g:Q (∀k,Z w.1<=k->¬a k))(e:Q (¬a 0))(f:Q (¬a 1))(o:Q (∀y∈q.2,1<=y.1/\y.1<=13))(p:1<=q.3.1/\q.3.1<=3)(j:J q.2<=4000)(l:J q.1<=4000)(i:Q (∀r∈NS q,c r)):
 pp Fence.wide 7 prog 159 #[Hn Bx] pf (og (Z w.1) c) (Zf (Z w.1) a) (λs=>s.map Pl.dat=NS q) (J q.2+2) w :=
 lf.seqN (uy (Z w.1) Bx n m a c q w (Y ⟨b.1,b.2,b.3,b.4,b.5,b.6,b.7,aA⟩) d h g e f o p j l i)
theorem Ki(l:I)(a:Uy)(c:N)(s:n<=1000):
 Sk prog 58 #[Sa #[H l,X a n c]] w λi d=>∃f b,i=Rt (Hn f)/\Z w.1<=f/\Z w.1<=b/\Sw (Z w.1) w d/\YW d f b (Z d.1) ((n+63)/64) a n c (λ_=>0) Hq []:=by
 have o:=Y λW=>Tt n W O
 go_in
 go_wp2_with fail
 refine Y7 (λd=>E d (A (Z w.1) 1)=S (X a n c)) λhHeld=>?_;refine Xn 0 ?_;refine Xn 1 ?_;refine Xn 2 ?_;refine Xn 3 ?_;refine Xn 4 ?_;refine Xs 5 λK hK=>?_;go_simp
 go_at_call 111
 refine(o _).mono ?_;rintro i h⟨b,rfl,k,e,g⟩;have t:Z w.1+1<=Z h.1:=by have:=e.4;simp at this;omega
 have j:Cl h (Z w.1) 1 (X a n c):=G (e.cell (p:=A (Z w.1) 1) (by show Z w.1<_;simp)) SC;have r:=g.lt;have m:=Y<|Xg (w1:=(D w<|.cells #[H l,X a n c] 40).drew) (Xb Rf _).drew e;have p:=Y g;have q:Z w.1<=b:=by simp at k;omega
 refine hK _ _ j λhHeld=>?_;refine Xn 6 ?_;refine Xs 7 λK hK=>?_;go_simp;refine hK _ _ (G (bP _ _ _<|by show Z w.1<_;omega) j) λhHeld=>?_;refine Xn 8 ?_;refine Yq ?_;go_wp2;go_ret;refine⟨Z h.1,b,R,O,q,Xb m _,⟨sP,sP,sP,λu=>sP,p.alloc _,dA,sP,SB,O,aA⟩⟩
def Jn(w:Ub):Prop:=∀j,j<64->E w ⟨4,j,U⟩=S (Si .u8 (Lib.deBruijn64tab.getD j 0))
theorem Jn.of_block(h:Jn w)(e:v.1[(4: N)]?=w.1[(4: N)]?):Jn v:=λj a=>G (Xc (o:=j) e) (h j a)
theorem Fu(b:n<18446744073709551616)(c:n≠0)(a:n&&&(18446744073709551616-n)=m):
 IntKind.u64.wrap (bits BinOp.and IntKind.u64 (n:I) (IntKind.u64.wrap (-(n:I)))*285870213051353865)/288230376151711744=((m*285870213051353865%18446744073709551616/288230376151711744:N):I):=by
 have e1:IntKind.u64.wrap (-(n:I))=((18446744073709551616-n:N):I):=by rw[iV];omega
 rw[e1,bits_and_u64_nat n _ b O,a,iV];omega
theorem Fb{Gb:N}(g:((n:I)==0)=Sn)(a:IntKind.u64.wrap (bits BinOp.and IntKind.u64 (n:I) (IntKind.u64.wrap (-(n:I)))*285870213051353865)/288230376151711744=(Gb:I))(d:Gb<64)(f:m<64)(c:E w (A 4 Gb)=S (Si .u8 m)):
 Sk prog 195 #[Si .u64 n] w λe b=>e=Rt (H m)/\b=w:=by
 go_in
 go_wp2_with (simp only[a])
 go_ret;exact⟨R,R⟩
theorem Fj(d:n<18446744073709551616)(e:n≠0)(w:Ub)(g:Q (Jn w)):
 Sk prog 195 #[Si .u64 n] w λf j=>f=Rt (H (Lib.ctz 64 n:N))/\j=w:=by
 let⟨h,c⟩:=Lib.lowest_bit 64 n e d;let⟨b,i⟩:=Lib.deBruijn64_at _ c;have a:=g _ b;rw[i]at a;exact Fb SB (Fu d e h) b c a
theorem qh(a:n≠0)(h:n<2^64):∃m,n=2^Lib.ctz 64 n*(2*m+1)/\Lib.ctz 64 n<64:=by
 have e:Lib.ctz 64 n=Lib.ctzFrom 64 n:=by simp[Lib.ctz,a]
 rw[e];exact Lib.ctzFrom_spec 64 n O h
theorem qo:(2^c*n).testBit m=(decide (c<=m)&&n.testBit (m-c)):=by
 rw[Nat.mul_comm,Nat.testBit_mul_two_pow]
theorem Et:(2*n+1).testBit m=(decide (m=0)||(2*n).testBit m):=by
 cases m with
 |zero=>simp
 |succ m=>
  rw[Nat.testBit_succ,Nat.testBit_succ];have d1:(2*n+1)/2=n:=O;have d2:2*n/2=n:=O;rw[d1,d2];simp
theorem EY(b:n≠0)(h:n<2^64)(i:N):(n&&&(n-1)).testBit i=(n.testBit i&&decide (i≠Lib.ctz 64 n)):=by
 let⟨m,a,g⟩:=qh b h;generalize Lib.ctz 64 n=c at*;have j:=Nat.two_pow_pos c;have e1:n-1=2^c*(2*m)+(2^c-1):=by rw[a,Nat.mul_add];omega
 rw[jW,e1,iH _ O,a,qo];by_cases f:i<c
 .have:¬c<=i:=O;simp[this]
 have d:c<=i:=O;simp only[f,d,decide_true,Bool.true_and,fD];rw[Et];by_cases e:i=c;·subst e;simp
 have:¬i-c=0:=O;simp[this,e]
theorem Fs(a:n≠0)(h:n<2^64):n.testBit (Lib.ctz 64 n)=So/\∀i,i<Lib.ctz 64 n->n.testBit i=Sn:=by
 let⟨m,b,d⟩:=qh a h;generalize Lib.ctz 64 n=c at*;rw[b];refine⟨?_,λi e=>?_⟩;·rw[qo];simp
 rw[qo];have:¬c<=i:=O;simp[this]
def Mq(W:Wk)(p:N):Wa:=(Rg p).filter (Xh W)
theorem qB(c:n<=m)(h:∀i,n<=i->i<m->Xh f i=Sn):Mq f m=Mq f n:=by
 unfold Mq;obtain⟨d,rfl⟩:∃d,m=n+d:=⟨m-n,O⟩;rw[lI,eU];have:((Rg d).map (n + ·)).filter (Xh f)=[]:=by
  rw[mJ];intro x b;obtain⟨j,a,rfl⟩:=aY.1 b;rw[h (n+j) O (oN<|bE.1 a)];simp
 rw[this,fF]
theorem EP(a:n<=m)(h:∀i,n<=i->i<m->Xh f i=Sn)(hq:Xh f m=So):Mq f (m+1)=Mq f n++[m]:=by
 rw[<-qB a h];unfold Mq;rw[dN,eU];simp[hq]
theorem om:m∈Mq f n↔m<n/\Xh f m=So:=by unfold Mq;rw[fG,bE]
section
attribute [local go_sem ↓] Go.wp_at_zero Go.wp_at_succ
def KV(v:I)(n:N)(x:Xe):Bool:=x.2.all (Yw v 10)&&Jf v n x.3
theorem EI{F:Fn}:(Z0 F&&J2 F)=F.2.all (KV F.1 (J F.2)):=by
 rw[show F.2.all (KV F.1 (J F.2))=F.2.all (λx=>x.2.all (Yw F.1 10)&&Jf F.1 (J F.2) x.3)from R,vw];rfl
theorem AJ(ha:Q (Xp w m k p x))(l:Q (n=J x))(j:n<=1048576)(g:Q (Xo x<=1048576))(b:k<=Z w.1)(h:Q (¬(0<=t/\t<=2000/\1<=n/\n<=1000/\Xo x<=4000))):
 Sk prog 41 #[Sa #[H t,X p n c]] w λe o=>e=Rt (Sb Sn)/\Sw (Z w.1) w o:=by
 by_cases a:0<=t/\t<=2000/\1<=n/\n<=1000
 .let⟨q,d1,d2,d3⟩:=a;have r:4000<Xo x:=oN h.o
  go_in
  go_wp2_with fail
  refine(tB m k ?q1 l j g ?q2).mono ?_
  case q1=>exact ha.keep (Xb Rf _ |>.mono b)
  case q2=>simp;omega
  rintro e s⟨rfl,f⟩;go_wp2;go_ret;exact⟨R,Xg (Xb Rf _) f⟩
 have i:t<0\/(0<=t/\2000<t)\/(0<=t/\t<=2000/\n<1)\/(0<=t/\t<=2000/\1<=n/\1000<n):=O;obtain d|⟨d,d1⟩|⟨d,d1,d2⟩|⟨d,d1,d2,d3⟩:=i
 all_goals
  go_in
  go_wp2;go_ret;exact⟨R,Xb Rf _⟩
end
def Zc(B:N):N:=(Rg 8).countP λi=>B.testBit i
def E1(f:N->N):N->N->N
 |0,_=>0
 |n+1,x=>f (x%256)+256*E1 f n (x/256)
def Wr(c:N):N->N
 |0=>0
 |n+1=>c+256*Wr c n
theorem KA(a:n<256)(d:c<256):(n+256*m)&&&(c+256*k)=(n&&&c)+256*(m&&&k):=by
 have b:n&&&c<2^8:=iC jB a;have e1:n+256*m=2^8*m+n:=O;have e2:c+256*k=2^8*k+c:=O;have e3:(n&&&c)+256*(m&&&k)=2^8*(m&&&k)+(n&&&c):=O;rw[e1,e2,e3];apply Nat.eq_of_testBit_eq;intro i;rw[jW,iH _ a,iH _ d,iH _ b];by_cases h:i<8;·simp[h]
 simp[h]
def f1(B:N):N:=(B/2&&&85)+(B&&&85)
def f2(B:N):N:=(B/4&&&51)+(B&&&51)
def f3(B:N):N:=(B/16+B)&&&15
theorem DJ:∀t,t<2->∀B,B<256->(B/2+128*t)&&&85=B/2&&&85:=by decide +kernel
theorem D4:∀t,t<4->∀B,B<256->(B/4+64*t)&&&51=B/4&&&51:=by decide +kernel
theorem kT:∀B,B<256->f1 B<256:=by decide +kernel
theorem rq:∀B,B<256->f2 B<256:=by decide +kernel
abbrev rC(B:N):Prop:=B%16<=4/\B/16<=4
theorem EV:∀B,B<256->rC (f2<|f1 B):=by decide +kernel
theorem CY:∀t,t<=4->∀B,B<256->rC B->B/16+16*t+B<256/\(B/16+16*t+B)&&&15=f3 B:=by decide +kernel
theorem Gt:∀B,B<256->f3 (f2<|f1 B)=Zc B:=by decide +kernel
theorem uo:∀B,B<256->Zc B<=8:=by decide +kernel
theorem oZ{f:Wk}(a:∀B,B<256->f B<256):∀n x,E1 f n x<256^n
 |0,_=>by simp[E1]
 |n+1,x=>by
  have b:=oZ a n<|x/256;have c:=a (x%256) (dS _ vY);simp only[E1,Nat.pow_succ];omega
theorem map_map{f h:Wk}(a:∀B,B<256->h B<256):∀n x,E1 f n (E1 h n x)=E1 (λB=>f<|h B) n x
 |0,_=>R
 |n+1,x=>by
  have b:=a (x%256) (dS _ vY);simp only[E1];have e1:(h (x%256)+256*E1 h n (x/256))%256=h (x%256):=O;have e2:(h (x%256)+256*E1 h n (x/256))/256=E1 h n (x/256):=O;rw[e1,e2,map_map a n]
theorem tP{f h:Wk}(e:∀B,B<256->f B=h B):∀n x,E1 f n x=E1 h n x
 |0,_=>R
 |n+1,x=>by simp only[E1];rw[e _<|dS _ vY,tP e n]
theorem wV:∀n x,(x/2&&&Wr 85 n)+(x&&&Wr 85 n)=E1 f1 n x
 |0,x=>by simp[Wr,E1]
 |n+1,x=>by
  have a:x%256<256:=dS _ vY;have ex:x=x%256+256*(x/256):=O;have d:x/2=(x%256/2+128*(x/256%2))+256*(x/256/2):=O;have e:=wV n<|x/256;simp only[E1,Wr];rw[<-e];have b:x/2&&&(85+256*Wr 85 n)=(x%256/2&&&85)+256*(x/256/2&&&Wr 85 n):=by
   rw[d,KA O vY,DJ _ (dS _ vY) _ a]
  have c:x&&&(85+256*Wr 85 n)=(x%256&&&85)+256*(x/256&&&Wr 85 n):=by
   conv=>lhs;rw[ex]
   exact KA a vY
  rw[b,c];unfold f1;omega
theorem wP:∀n x,(x/4&&&Wr 51 n)+(x&&&Wr 51 n)=E1 f2 n x
 |0,x=>by simp[Wr,E1]
 |n+1,x=>by
  have a:x%256<256:=dS _ vY;have ex:x=x%256+256*(x/256):=O;have d:x/4=(x%256/4+64*(x/256%4))+256*(x/256/4):=O;have e:=wP n<|x/256;simp only[E1,Wr];rw[<-e];have b:x/4&&&(51+256*Wr 51 n)=(x%256/4&&&51)+256*(x/256/4&&&Wr 51 n):=by
   rw[d,KA O vY,D4 _ (dS _ vY) _ a]
  have c:x&&&(51+256*Wr 51 n)=(x%256&&&51)+256*(x/256&&&Wr 51 n):=by
   conv=>lhs;rw[ex]
   exact KA a vY
  rw[b,c];unfold f2;omega
def VM:N->N->Prop
 |0,x=>x=0
 |n+1,x=>rC (x%256)/\VM n (x/256)
theorem vy:∀n x,VM n<|E1 (λB=>f2<|f1 B) n x
 |0,_=>R
 |n+1,x=>by
  have a:x%256<256:=dS _ vY;have d:=rq _<|kT _ a;have b:=EV _ a;have c:=vy n<|x/256;simp only[E1,VM];have e1:(f2 (f1<|x%256)+256*E1 (λB=>f2<|f1 B) n (x/256))%256=f2 (f1<|x%256):=O;have e2:(f2 (f1<|x%256)+256*E1 (λB=>f2<|f1 B) n (x/256))/256=E1 (λB=>f2<|f1 B) n (x/256):=O;rw[e1,e2];exact⟨b,c⟩
theorem EA:∀n x,VM n x->x%16<=4
 |0,x,h=>by simp only[VM]at h;omega
 |n+1,x,h=>by
  have:=h.1.1;omega
theorem wR:∀n x,VM n x->(x/16+x)&&&Wr 15 n=E1 f3 n x
 |0,x,_=>by simp[Wr,E1]
 |n+1,x,h=>by
  have c:x%256<256:=dS _ vY;have e:=wR n (x/256) h.2;have d:=EA n _ h.2;let⟨a,b⟩:=CY _ d _ c h.1;simp only[E1,Wr];rw[<-e,<-b];have ex:x/16+x=(x%256/16+16*(x/256%16)+x%256)+256*(x/256/16+x/256):=O;rw[ex,KA a vY]
def NZ(n x:N):N:=(Rg<|8*n).countP λi=>x.testBit i
theorem Bv:NZ (n+1) m=Zc (m%256)+NZ n (m/256):=by
 unfold NZ Zc;have e:8*(n+1)=8+8*n:=O;rw[e,lI,lN,List.countP_map];congr 1
 .apply kK;intro i a;have:i<8:=bE.1 a;have e2:(m%2^8).testBit i=m.testBit i:=by rw[Nat.testBit_mod_two_pow];simp[this]
  rw[show m%256=m%2^8 from R,e2]
 apply kK;intro i a;have e2:(m/2^8).testBit i=m.testBit (8+i):=by rw[Nat.testBit_div_two_pow,Nat.add_comm]
 rw[show m/256=m/2^8 from R,e2];rfl
def rA(f:N->N):N->N->N
 |0,_=>0
 |n+1,x=>f (x%256)+rA f n (x/256)
theorem uh:∀n x,NZ n x=rA Zc n x
 |0,_=>R
 |n+1,x=>by rw[Bv,uh n];rfl
section
structure XW(w w':Ub)(lab lab':N->N×N×N)(base:N)(ok:Vv):Prop where
 size:Z w.1<=Z w'.1
 same:∀b,base<=b->b<Z w.1->ok b->w'.1[b]?=w.1[b]?/\lab' b=lab b
 fresh:(∀b,Z w.1<=b->lab b=(0,0,0))->∀b,Z w'.1<=b->lab' b=(0,0,0)
variable {w w': Ub} {lab lab': N -> N×N×N} {base: N} {ok: N -> Prop}
theorem Xv.sp{L:N×N×N}{t c:N}{v:Uj}{n:N}{a:Wo}(h:Xv w lab L base t c v n a)(k:XW w w' lab lab' base ok)(g:∀b,lab b=L->ok b):Xv w' lab' L base t c v n a :=
 h.keep λb d f e=>by have:=k.2 b d f<|g b e;exact⟨this.1,G this.2 e⟩
theorem Bx.sp{b t:N}{a:Zh}(h:Bx w b a t)(k:XW w w' lab lab' base ok)(c:base<=b)(d:ok b):Bx w' b a t:=h.keep (k.2 b c h.lt d).1
theorem XW.put(g q:N)(u:Uj):XW w (Se w ⟨g,q,U⟩ u) lab lab base (λb=>b≠g) :=
 ⟨by simp[World.setCell],λb _ _ a=>⟨Below.heap_setCell _ _ _ _ a,R⟩,λh b a=>h b<|by simpa [World.setCell]using a⟩
theorem Xv.grow{L:N×N×N}{t g:N}{v a:Uj}{p k:N}{l h:Wo}(i:Xv w lab L base t g v p l)(d:w.grownBy w' v.ownBlock)(j:Sx w' base t g a k h)(n:a.ownBlock=v.ownBlock\/a.ownBlock=S (Z w.1))(o:∀b,Z w.1<=b->lab b=(0,0,0)):
 ∃lab',Xv w' lab' L base t g a k h/\XW w w' lab lab' base (λb=>lab b≠L):=by
 refine⟨λb=>if a.ownBlock=S b then L else lab b,⟨j,λb e=>aU e⟩,d.4,λb q m c=>⟨d.5 b m λe=>c<|i.2 b e.symm,aM λe=>?_⟩,λ_ b c=>G (aM λe=>?_) (o b<|aJ d.4 c)⟩
 .rcases n with f|f;·exact c<|i.2 b (G f.symm e)
  rw[e]at f;injection f with f;omega
 have:=(j.lt b e).2;have:=d.4;omega
end
theorem pK(n:N):∀(f:Wn),J f=n->f.all T3=So->n<=10->∀w:Ub,Sk prog 78 #[Sg (K8 f)] w λe i=>e=Rt (H (Bo f:N))/\Sw (Z w.1) w i:=by
 induction n with
 |zero=>
  intro f a _ _ w;have y:=List.length_eq_zero_iff.1 a;subst y;clear a;have L:(K8 []).size=0:=R
  go_in
  go_wp2;go_ret;exact⟨R,Rf⟩
 |succ n q=>
  intro f a l M w;have h:f≠[]:=by intro x;rw[x]at a;simp at a
  obtain⟨g,c,rfl⟩:∃g c,f=g++[c]:=⟨f.dropLast,f.getLast h,(List.dropLast_concat_getLast h).symm⟩;have b:J g=n:=by simpa using a
  rw[List.all_append,bY]at l;let⟨d,m⟩:=l;have u:=Y<|q g b d O;clear q;have o:(K8<|g++[c]).size=n+1:=by rw[i7];exact a
  have t:Q ((K8<|g++[c]).extract 0 n=K8 g):=Y (by
   apply ByteArray.ext;simp[K8,ByteArray.data_extract,<-b])
  have P:n<(K8<|g++[c]).size:=O;have T:(K8<|g++[c])[n]=c:=by
   show(g++[c])[n]'(by simp[b])=c;simp[<-b]
  have V:(48:I)<=(c.toNat:I)/\(c.toNat:I)<=57:=by
   simp only[List.all_cons,List.all_nil,Bool.and_true,T3,bY,bD]at m;omega
  have r:Q ((Bo (g++[c]):I)=Bo g*10+((c.toNat:I)-48)):=Y (by rw[yK];omega);have k:(Bo g:I)<10000000000:=by
   have C:=zn d;have W:10^J g<=10^10:=Nat.pow_le_pow_right vY O;omega
  clear d m h a;clear b;generalize K8 (g++[c])=F at*;have j:=Y o;clear o;have K:(n:I)<(F.size:I):=O;have B:¬((F.size:I)=0):=O;have Q_:((F.size:I)==0)=Sn:=by simpa using B
  have s:=Y k;clear k;have z:(F.size:I)-1=(n:I):=oN j.o;have p:S6.wrap ((F.size:I)-1)=(n:I):=by rw[dF,z];omega
  have R_:S6.wrap ((n:I))=(n:I):=by rw[dF];omega
  have L_:(0:I)<=(n:I):=O;have M_:(n:I)<=(F.size:I):=O;have v:Q (∀w,Sk prog 78 #[Sg (F.extract 0 n)] w λe i=>e=Rt (H (Bo g:N))/\Sw (Z w.1) w i):=Y (t.o▸u)
  go_in
  go_wp2_with fail
  go_region_held3 (λ_=>True) (trivial) ((go_at_call 78;refine(v _).mono ?_;rintro e S_⟨rfl,p⟩))
  all_goals
   go_wp2;go_ret;refine⟨f9 ?_,?_⟩
   .rw[r.o];have:=s.o;have e1:IntKind.u8.wrap ((c.toNat:I)-48)=(c.toNat:I)-48:=by simp[IntKind.wrap,IntKind.signed,IntKind.bits];omega
    have e2:S6.wrap ((c.toNat:I)-48)=(c.toNat:I)-48:=by rw[dF];omega
    have e3:S6.wrap ((Bo g:I)*10)=(Bo g:I)*10:=by rw[dF];omega
    rw[e1,e2,e3,dF];omega
   exact(Rf).drew.trans p
theorem j9(f:Wn)(w:Ub):
 Sk prog 36 #[Sg (K8 f)] w λe k=>e=Rt (H<|Gb f)/\Sw (Z w.1) w k:=by
 have g:=λw=>Y<|yD f 4 vY w;cases h:Ax f 4 with
 |false=>
  have d:Q (Gb f=-1):=Y (by unfold Gb;rw[h];rfl);have c:=Y h
  go_in
  go_wp2_with (go_at_call 77;refine(g _).mono ?_;rintro e b⟨rfl,a⟩;rw[a,c.o];clear a b)
  go_ret;exact⟨f9 d.symm,Rf⟩
 |true=>
  have d:Q (Gb f=(Bo f:N)):=Y (by unfold Gb;rw[h];rfl);have hq:J f<=4/\f.all T3=So:=by
   unfold Ax at h;simp only[bY,lV,Bool.or_eq_false_iff,fC]at h;exact⟨O,h.2⟩
  have i:=λw=>Y<|pK (J f) f R hq.2 O w
  go_in
  go_wp2_with (first|(go_at_call 77;refine(g _).mono ?_;rintro e b⟨rfl,a⟩;rw[a,(Y h).o];clear a b)|(go_at_call 78;refine(i _).mono ?_;rintro e b⟨rfl,j⟩))
  go_ret;exact⟨f9 d.symm,j⟩
theorem sI(c:UInt8)(r:Wn):NM (45::c::r)=(c != 48&&NM (c::r)&&c != 45):=by rw[NM]
theorem oQ(f:Wn)(h:∀c r,f≠45::c::r):NM f=(Ax f 10&&decide (Bo f<=1000000000)):=by
 rw[NM];intro c r e;exact h c r e
theorem sh{f:Wn}(h:Ax f n=So):J f<=n/\f.all T3=So/\0<J f:=by
 unfold Ax at h;simp only[bY,lV,Bool.or_eq_false_iff,fC,iS]at h;exact⟨O,h.2,O⟩
theorem Mc:∀(f:Wn)(_:∀c r,f≠45::c::r)(_:1<J f)(a:0<(K8 f).size),¬((((K8 f)[0]).toNat:I)=45)
 |c::d::r,h,_,_,e=>h d r<|by rw[show c=45 from UInt8.toNat_inj.1 (by have:(c.toNat:I)=45:=e;show c.toNat=45;omega)]
 |[_],_,q,_,_=>Sz q sP
 |[],_,q,_,_=>Sz q sP
theorem zPF0{p: Prop}(h: p := by
  go_wp2_with (first|(go_at_call 77;refine(h _).mono ?_;rintro e b⟨rfl,a⟩;rw[a,d.o];clear a b)|(go_at_call 78;refine(j _).mono ?_;rintro e b⟨rfl,i⟩))
  go_ret
  exact⟨Xl g.symm,i⟩): p := h
theorem zPF1{p: Prop}(h: p := by
  go_wp2_with (go_at_call 77;refine(h _).mono ?_;rintro e b⟨rfl,a⟩;rw[a,d.o];clear a b)
  go_ret
  exact⟨Xl g.symm,Below.refl _ _⟩): p := h
theorem yB{f:Wn}(l:∀c r,f≠45::c::r):
 Sk prog 80 #[Sg (K8 f)] w λe o=>e=Rt (Sb (NM f))/\Sw (Z w.1) w o:=by
 have k:=Y<|oQ f l;have h:=λw=>Y<|yD f 10 vY w
 have p:=i7 f;have n:J f<=1\/(1<J f/\∃m:0<(K8 f).size,¬((((K8 f)[0]).toNat:I)=45)):=by
  obtain q|q:=mL 1 (J f)
  .right
   exact⟨q,O,Mc f l q O⟩
  exact bC q
 cases hd:Ax f 10 with
 |false=>
  have d:=Y hd;have g:Q (NM f=Sn):=Y (by rw[k.o,hd];rfl);obtain q|⟨q,m,q2⟩:=n
  .go_in
   exact zPF1
  go_in
  exact zPF1
 |true=>
  have d:=Y hd;have hq:=sh hd;have j:=λw=>Y<|pK (J f) f R hq.2.1 hq.1 w
  have g:Q (NM f=decide ((Bo f:I)<=1000000000)):=Y (by
   rw[k.o,hd,Bool.true_and];by_cases q:Bo f<=1000000000;·rw[eB q,eB O]
   rw[dJ q,dJ O])
  obtain q|⟨q,m,q2⟩:=n
  .go_in
   exact zPF0
  go_in
  exact zPF0
theorem IG:∀(f:Wn),J f<=n->J f<=1000000->∀w:Ub,Sk prog 80 #[Sg (K8 f)] w λe i=>e=Rt (Sb (NM f))/\Sw (Z w.1) w i:=by
 induction n with
 |zero=>
  intro f b _ w;exact yB λc r e=>by rw[e]at b;simp at b
 |succ n o=>
  intro f b h w;by_cases d:∀c r,f≠45::c::r;·exact yB d
  have d:∃c r,f=45::c::r:=by
   false_or_by_contra
   rename_i q;exact d λc r e=>q ⟨c,r,e⟩
  obtain⟨c,r,rfl⟩:=d;have k:=Y (o (c::r) (by simp at b |-;omega) (by simp at h |-;omega));have g:=Y<|sI c r;have t:(K8 (45::c::r)).size=J r+2:=i7 _;have v:0<(K8 (45::c::r)).size:=O;have x:1<(K8 (45::c::r)).size:=O;have y:(K8 (45::c::r))[0]=45:=R;have z:(K8 (45::c::r))[1]=c:=R;have j:Q ((K8 (45::c::r)).extract 1 (K8 (45::c::r)).size=K8 (c::r)):=Y (by
   apply ByteArray.ext;rw[ByteArray.data_extract,i7];simp[K8])
  have s:Q (∀w,Sk prog 80 #[Sg ((K8 (45::c::r)).extract 1 (J r+2))] w λe i=>e=Rt (Sb (NM (c::r)))/\Sw (Z w.1) w i):=Y (by rw[<-t,j.o];exact k);have C:J r<=1000000:=by simp at h;omega
  generalize K8 (45::c::r)=F at*;by_cases l:(c.toNat:I)=48
  .have a:Q (NM (45::c::r)=Sn):=Y (by
    have e:c=48:=UInt8.toNat_inj.1 (by show c.toNat=48;omega);rw[g.o,e];rfl)
   go_in
   go_wp2;go_ret;exact⟨Xl a.symm,Rf⟩
  have p:Q ((c != 48)=So):=Y (by
   rw[jJ];intro e;subst e;exact l R)
  go_in
  go_wp2_with fail
  refine(s _).mono ?_;rintro e B⟨rfl,m⟩;cases hb:NM (c::r)with
  |false=>
   have a:Q (NM (45::c::r)=Sn):=Y (by rw[g.o,hb];simp);go_wp2;go_ret;exact⟨Xl a.symm,m⟩
  |true=>
   have a:Q (NM (45::c::r)=((c.toNat:I) != 48&&(c.toNat:I) != 45)):=Y (by
    rw[g.o,hb,p.o,Bool.true_and,Bool.true_and,jJ.2 l,Bool.true_and];by_cases q:c=45;·subst q;rfl
    have:¬((c.toNat:I)=45):=λu=>q<|UInt8.toNat_inj.1 (by show c.toNat=45;omega)
    rw[jJ.2 q,jJ.2 this])
   go_wp2;go_ret;exact⟨Xl a.symm,m⟩
theorem LM{f:Wn}(h:NM f=So):(∃r,f=45::r/\J r<=10/\r.all T3=So/\Bo r<=1000000000)\/(f.head?≠S 45/\0<J f/\J f<=10/\f.all T3=So/\Bo f<=1000000000):=by
 have d:∀g:Wn,(∀c r,g≠45::c::r)->NM g=So->g.head?≠S 45/\0<J g/\J g<=10/\g.all T3=So/\Bo g<=1000000000:=λg i b=>by
  rw[oQ g i,bY,bD]at b;let⟨q1,q2,q3⟩:=sh b.1;refine⟨λe=>?_,q3,q1,q2,b.2⟩;cases g with
  |nil=>cases e
  |cons x r=>
   simp at e;subst e;simp[T3]at q2
 by_cases a:∀c r,f≠45::c::r;·exact aZ<|d f a h
 have a:∃c r,f=45::c::r:=by
  false_or_by_contra
  rename_i q;exact a λc r e=>q ⟨c,r,e⟩
 obtain⟨c,r,rfl⟩:=a;rw[sI,bY,bY,jJ,jJ]at h;let⟨_,q3,q4,j,k⟩:=d (c::r) (λl s e=>h.2<|by cases e;rfl) h.1.2;exact bC ⟨c::r,R,q4,j,k⟩
theorem IT{f:Wn}(g:NM f=So):
 Sk prog 81 #[Sg (K8 f)] w λe h=>e=Rt (H<|i9 f)/\Sw (Z w.1) w h:=by
 obtain⟨r,rfl,h1,h2,h3⟩|⟨h0,j,h1,h2,h3⟩:=LM g
 .have a:=λw=>Y<|pK (J r) r R h2 h1 w
  have b:Q (i9 (45::r)=-(Bo r:I)):=Y R;have n:(K8 (45::r)).size=J r+1:=i7 _;have j:0<(K8 (45::r)).size:=O;have m:(K8 (45::r))[0]=45:=R;have i:Q ((K8 (45::r)).extract 1 (J r+1)=K8 r):=Y (by
   apply ByteArray.ext;rw[ByteArray.data_extract];simp[K8])
  have l:Q (∀w,Sk prog 78 #[Sg ((K8 (45::r)).extract 1 (J r+1))] w λe h=>e=Rt (H (Bo r:N))/\Sw (Z w.1) w h):=Y (by rw[i.o];exact λw=>(a w).o);have k:=Y h3;generalize K8 (45::r)=F at*
  go_in
  go_wp2_with fail
  refine(l _).mono ?_;rintro e o⟨rfl,d⟩;have q:S6.wrap (-(Bo r:I))=-(Bo r:I):=by rw[dF];have:=k.o;omega
  go_wp2;go_ret;exact⟨f9 b.symm,d⟩
 have a:=λw=>Y<|pK (J f) f R h2 h1 w
 have b:Q (i9 f=(Bo f:I)):=Y (by unfold i9;rw[aM h0]);have n:(K8 f).size=J f:=i7 _;have p:0<(K8 f).size:=O;have m:¬((((K8 f)[0]).toNat:I)=45):=by
  cases f with
  |nil=>simp at j
  |cons c s=>
   intro e;exact h0<|by rw[show c=45 from UInt8.toNat_inj.1 (by have:(c.toNat:I)=45:=e;show c.toNat=45;omega)];rfl
 go_in
 go_wp2_with fail
 refine(a _).mono ?_;rintro e o⟨rfl,d⟩;go_wp2;go_ret;exact⟨f9 b.symm,d⟩
def KC(l:Vw):Wo:=l.map λf=>Sg<|K8 f
theorem zh{l:Vw}{f:Wn}:KC (l++[f])=KC l++[Sg<|K8 f]:=by simp[KC]
theorem Qh:(prog.info? 9).map (λi=>(i.8,i.3,i.4))=S (S<|.string ByteArray.empty,1,16):=vZ
theorem Mo(sep:UInt8){bs:Wn}(h:m<J bs)(a:n<=m):am sep ((bs.take m).drop n) (bs.drop m)=if bs[m]=sep then (bs.take m).drop n::am sep ((bs.take<|m+1).drop (m+1)) (bs.drop<|m+1)else am sep ((bs.take<|m+1).drop n) (bs.drop<|m+1):=by
 rw[gZ h,am];have e1:(bs.take<|m+1).drop (m+1)=[]:=by rw[List.drop_eq_nil_iff];simp;omega
 have e2:(bs.take<|m+1).drop n=(bs.take m).drop n++[bs[m]]:=by
  rw[bN h,List.drop_append_of_le_length<|by simp;omega]
 rw[e1,e2]
theorem zB(c:N)(sep:UInt8){bs:Wn}(w:Ub)(ha:Q (Yx w B g (S ⟨n,m,U⟩) bs))(s:Q (k=J bs))(hn:k<=1000000)(hc:k<=c)(S_:g<=Z w.1):
 Sk prog 34 #[Hm n m k c,Si .u8 (sep.toNat:I)] w λe w'=>∃P,e=Rt P/\Sw (Z w.1) w w'/\Sx w' (Z w.1) 9 1 P (J (C3 bs sep)) (KC<|C3 bs sep):=by
 let⟨T,V,K,L,M⟩:=fX Qh
 go_in
 go_wp2
 go_loopw [5,6,7] (λP fr N_ wr=>∃(a q:N)(done:Vw),a<=k/\q<=a/\N_=H a/\fr=H q/\Q (Sw (Z w.1) w wr)/\Q (J done<=a)/\Q (C3 bs sep=done++am sep ((bs.take a).drop q) (bs.drop a))/\Q (Sx wr (Z w.1) 9 1 P (J done)<|KC done)) λ_ _ N_ _=>k-(intOf N_).toNat
 case atStart=>exact⟨0,0,[],aN,aA,R,R,Y<|Xb Rf _,Y<|aA,Y (by simp[C3]),Y (by
  have:=eI (base:=Z w.1) (e:=9) (size:=1) w #[] 0 sP sP R;simpa [KC]using this)⟩
 obtain⟨a,q,done,X_,J_,rfl,rfl,d,C,E_,o⟩:=hrel;have az:=d.4;have y:∀(W:Ub)(b:N)(e:N),Sw (Z w.1) w W->e<=k->q<=e->(convert 22 9<|Hm n (m+q) (e-q) b).run prog W=.ok (Sg (K8<|(bs.take e).drop q)) W:=λW b e hW he ar=>by
  have a0:=s.o;have hl:J ((bs.take e).drop q)=e-q:=by simp only[mF,dH];omega
  have:=run_convert_bytes_back (P:=prog) W 22 9 5 (A n<|m+q) b ((bs.take e).drop q) underlying22 underlying5 underlying9 (λP_ V_=>by
   have ad:q+P_<J bs:=O;let⟨b',o',G_,aj,ac⟩:=(ha.keep<|hW.mono S_) (q+P_) ad;cases G_;rw[mK,Nat.add_assoc,ac];simp only[List.getElem_drop,jG])
  rw[hl]at this;exact this
 by_cases aq:a<k
 .have Y_:a<J bs:=oN s.o;let⟨b',o',G_,⟨_,al⟩,ao⟩:=(ha.keep<|d.mono S_) a Y_;cases G_;have R_:=Y<|Mo sep Y_ J_;by_cases r:bs[a]=sep
  .have hz:((bs[a].toNat:I)==(sep.toNat:I))=So:=by simp[r]
   have F_:Q (C3 bs sep=(done++[(bs.take a).drop q])++am sep ((bs.take<|a+1).drop (a+1)) (bs.drop<|a+1)):=Y (by rw[E_.o,R_.o,aU r];simp);have U_:=λb=>y wr b a d X_ J_;have l:Q (J done+1<=2000000):=Y<|oN C.o;clear r y;generalize (bs[a].toNat:I)=aa at*;generalize (bs.take a).drop q=f at*;go_wp2_with (at_builtin;refine bT _ R _ _ 64 R (Z w.1) 9 T (Sg ByteArray.empty) 1 16 underlying64 V K L M R vY _ _ _ R (o.alloc _) (A (Z wr.1) 0) 1 1 [Sg (K8 f)] R R ?c1 ?c2 ?c3 ?c4 ?c5 ?_)
   case c1=>exact cell_one_new _ _ _
   case c2=>first|rfl|(intro Z_ j;simp at j;subst j;rfl)
   case c3=>have:=l.o;unfold maxLen;omega
   case c4=>have:=l.o;omega
   case c5=>first|omega|(simp;omega)
   intro v1 p i h F x;have u:Q (Sx p (Z w.1) 9 1 v1 (J (done++[f])) (KC<|done++[f])):=Y (by rw[zh,aQ];exact i);have t:=Y (d.alloc O _ |>.grown h SB λv z=>(o.lt v z).1);clear i h F x;go_wp2;exact⟨⟨a+1,a+1,done++[f],O,aA,gM,gM,t,Y (by have:=C.o;simp;omega),F_,u⟩,SA⟩
  have hz:((bs[a].toNat:I)==(sep.toNat:I))=Sn:=by
   rw[iS];intro e;exact r<|UInt8.toNat_inj.1 O
  have F_:Q (C3 bs sep=done++am sep ((bs.take<|a+1).drop q) (bs.drop<|a+1)):=Y (by rw[E_.o,R_.o,aM r]);clear r y;generalize (bs[a].toNat:I)=aa at*;go_wp2;exact⟨⟨a+1,q,done,O,O,gM,R,d,Y<|oN C.o,F_,o⟩,SA⟩
 have af:a=k:=O
 subst af;have HF:Q (C3 bs sep=done++[bs.drop q]):=Y (by
  have e1:bs.drop a=[]:=by rw[List.drop_eq_nil_iff];have:=s.o;omega
  have e2:bs.take a=bs:=aW<|oN s.o;rw[E_.o,e1,e2,am])
 have l:Q (J done+1<=2000000):=Y<|oN C.o;have U_:=λb=>by
  have:=y wr b a d X_ J_;rwa[aW<|oN s.o]at this
 have H_:∀b,c=q->(convert 22 9<|Hm n m (a-q) b).run prog wr=.ok (Sg (K8<|bs.drop q)) wr:=λb T_=>by
  have e1:bs.drop q=[]:=by rw[List.drop_eq_nil_iff];have:=s.o;omega
  have e2:a-q=J ([]:Wn):=by simp;omega
  rw[e1,e2];exact run_convert_bytes_back (P:=prog) wr 22 9 5 (A n m) b [] underlying22 underlying5 underlying9 λP_ V_=>Sz V_ sP
 clear y;generalize bs.drop q=f at*;have fin:∀(v1:Uj)(p:Ub),Sx p (Z w.1) 9 1 v1 (J done+1) (KC done++[Sg (K8 f)])->Sx p (Z w.1) 9 1 v1 (J (C3 bs sep)) (KC<|C3 bs sep):=λv1 p ab=>by rw[HF.o,zh,aQ];exact ab
 have Q_:=Y fin;clear fin;by_cases T_:c=q
 .have ap:=λb=>H_ b T_;clear U_ H_;go_wp2_with (at_builtin;refine bT _ R _ _ 64 R (Z w.1) 9 T (Sg ByteArray.empty) 1 16 underlying64 V K L M R vY _ _ _ R (o.alloc _) (A (Z wr.1) 0) 1 1 [Sg (K8 f)] R R ?d1 ?d2 ?d3 ?d4 ?d5 ?_)
  case d1=>exact cell_one_new _ _ _
  case d2=>first|rfl|(intro Z_ j;simp at j;subst j;rfl)
  case d3=>have:=l.o;unfold maxLen;omega
  case d4=>have:=l.o;omega
  case d5=>first|omega|(simp;omega)
  intro v1 p i h F x;have u:=Y<|Q_.o _ _ i;have t:=Y (d.alloc O _ |>.grown h SB λv z=>(o.lt v z).1);clear i h F x;go_wp2;go_ret;exact⟨_,R,t,u⟩
 clear H_;go_wp2_with (at_builtin;refine bT _ R _ _ 64 R (Z w.1) 9 T (Sg ByteArray.empty) 1 16 underlying64 V K L M R vY _ _ _ R (o.alloc _) (A (Z wr.1) 0) 1 1 [Sg (K8 f)] R R ?e1 ?e2 ?e3 ?e4 ?e5 ?_)
 case e1=>exact cell_one_new _ _ _
 case e2=>first|rfl|(intro Z_ j;simp at j;subst j;rfl)
 case e3=>have:=l.o;unfold maxLen;omega
 case e4=>have:=l.o;omega
 case e5=>first|omega|(simp;omega)
 intro v1 p i h F x;have u:=Y<|Q_.o _ _ i;have t:=Y (d.alloc O _ |>.grown h SB λv z=>(o.lt v z).1);clear i h F x;go_wp2;go_ret;exact⟨_,R,t,u⟩
theorem zD{tg:I}(K:Q (Va w n 0 ⟨m,t,tg,T⟩))(h:1<=m)(i:m<=3)(o:Q (Yb w)):
 Sk prog 76 #[Hn n] w λk b=>∃v,k=Rt v/\Sw (Z w.1) w b/\Sx b (Z w.1) 225 1 v (J (Yd [(m:I) != 1,(m:I) != 3,(m:I)==2] [(A n 1),(A n 2),(A n 3)])) ((Yd [(m:I) != 1,(m:I) != 3,(m:I)==2] [(A n 1),(A n 2),(A n 3)]).map Tx):=by
 obtain⟨p,q1,q2,q3⟩:=K.o;simp only at p q1 q2 q3;obtain⟨c0,c1,c2,c3⟩:=o.2 m h i;have V:=o.1;generalize ((m:I) != 1)=e at*;generalize ((m:I) != 3)=g at*;generalize ((m:I)==2)=f at*
 go_in
 go_wp2_with fail
 have L:(λd:Ub=>Z d.1=Z w.1+1/\E d ⟨Z w.1,1,U⟩=S (Sb e)/\E d ⟨Z w.1,2,U⟩=S (Sb g)/\E d ⟨Z w.1,3,U⟩=S (Sb f)/\Q (Sw (Z w.1) w d)) (D w<|.cells #[Sg (K8<|gx m),Sb e,Sb g,Sb f] 139):=⟨sP,sP,sP,sP,Y<|Xb Rf _⟩;generalize D w _=a at*;obtain⟨e1,y,z,M,r⟩:=L;clear p q1 q2 q3 c0 c1 c2 c3;have H_:=Y e1;have j:Z w.1<Z a.1:=O;clear e1;have s:=Y λF x W h i B C=>@yQ [e,g,f] [⟨n,1,U⟩,⟨n,2,U⟩,⟨n,3,U⟩] a W F x 3 3 R sP h i B C
 go_region_held3 (λb=>E b ⟨Z w.1,1,U⟩=S (Sb e)/\E b ⟨Z w.1,2,U⟩=S (Sb g)/\E b ⟨Z w.1,3,U⟩=S (Sb f)) (go_keep)
  (first|(go_at_call 143;refine(s _ _ _ (Xb (Xb Rf _) _).drew (by show _<=Z (World.alloc _ _).1;simp) (by first|exact J7 a _ _ _ _|exact J6 a _ _ _ _) (by first|exact J6 a _ _ _ _|exact J7 a _ _ _ _)).mono ?_;rintro k P⟨v5,rfl,c,l⟩;have q:=Y<|r.trans (c.mono O);have u:Q (Sx P (Z w.1) 225 1 v5 _ _):=Y<|Zk l O;have f1:=oB c y j;have f2:=oB c z j;have f3:=oB c M j;clear c l))
 all_goals
  go_wp2;go_ret;exact⟨_,R,q,u⟩
theorem Wa3_(h:¬n<10):Lib.decDigits n=Lib.decDigits (n/10)++[UInt8.ofNat<|48+n%10]:=by
 rw[Lib.decDigits,dif_neg h]
theorem Wa4_(w:Ub)(b:UInt8)(W:Ub)(a:E W ⟨Z w.1,0,U⟩=S (Si .u8 b.toNat)):Sem.run prog (convert 22 9 (X (S ⟨Z w.1,0,U⟩) 1 1)) W=.ok (Sg (K8 [b])) W:=by
 have h:=run_convert_bytes_back (P:=prog) W 22 9 5 ⟨Z w.1,0,U⟩ 1 [b] underlying22 underlying5 underlying9 ?_;·exact h
 intro j c;have e:j=0:=by simpa using c
 subst e;simpa [Addr.add]using a
theorem Wa5_(u:N):J (Lib.decDigits u)<=u/2+1:=by
 induction u using Nat.strongRecOn with
 |ind u a=>
  by_cases h:u<10;·rw[Lib.decDigits_one h];simp
  rw[Wa3_ h,aQ];have:=a (u/10) O;simp only[bA,bO];omega
theorem Wa6_(h:n<10):∃b:UInt8,b=UInt8.ofNat (48+n)/\((b.toNat:N):I)=48+(n:I):=by
 refine⟨_,R,?_⟩;have:(UInt8.ofNat<|48+n).toNat=48+n:=by rw[UInt8.toNat_ofNat'];omega
 rw[this];omega
theorem Wa7_(h:n<10):
 Sk prog 21 #[Si S6 n] w λf g=>f=Rt (Sg (K8<|Lib.decDigits n))/\Sw (Z w.1) w g:=by
 have i:(n:I)<10:=O;have j:¬(n:I)<0:=O;obtain⟨b,c,d⟩:=Wa6_ h;have a:=Wa4_ w b;rw[d]at a;have k:=a (D w (Sc #[Si .u8 (48+(n:I))] 5)) SC;have e:Q (Lib.decDigits n=[b]):=Y (by rw[Lib.decDigits_one h,c]);clear c d a
 go_in
 go_wp2_with fail
 go_ret;exact⟨by rw[e.o];rfl,(Rf).alloc (aA) _⟩
theorem Wa8_(u:N)(F:u<=9223372036854775807)(w:Ub):
 Sk prog 21 #[Si S6 u] w λe o=>e=Rt (Sg (K8<|Lib.decDigits u))/\Sw (Z w.1) w o:=by
 induction u using Nat.strongRecOn generalizing w with
 |ind u m=>
  by_cases k:u<10;·exact Wa7_ k
  have g:=Y λW=>m (u/10) O O W;have p:¬(u:I)<10:=O;have s:¬(u:I)<0:=O;have hq:((u:I).tdiv 10)=((u/10:N):I):=by rw[fY O];omega
  have z:((u:I).tmod 10)=((u%10:N):I):=by rw[eW O];omega
  have n:u%10<10:=dS _ vY;have y:u/10<=922337203685477580:=O;have j:=Y<|Wa3_ k;generalize u%10=r at*;generalize u/10=q at*;obtain⟨c,a,h⟩:=Wa6_ n;have B:S6.wrap ((q:N):I)=(q:I):=by
   have v:(0:I)<=q:=O;have x:(q:I)<=922337203685477580:=O;generalize (q:I)=L at*;simp[IntKind.wrap,IntKind.signed,IntKind.bits];omega
  have C:S6.wrap (48+(r:I))=48+(r:I):=by simp[IntKind.wrap,IntKind.signed,IntKind.bits];omega
  have M:IntKind.u8.wrap (48+(r:I))=48+(r:I):=by simp[IntKind.wrap,IntKind.signed,IntKind.bits];omega
  have f:Q (K8 (Lib.decDigits q)++K8 [c]=K8 (Lib.decDigits u)):=Y (by rw[j.o,Waa_,a]);have t:¬9223372036854775807<(K8<|Lib.decDigits q).size+(K8 [c]).size:=by
   rw[i7,i7];have:=Wa5_ q;simp only[bA,bO];omega
  clear m a j
  go_in
  go_wp2_with fail
  refine Y7 (λ_=>True) λhHeld=>?_;refine Xn 0 ?_;refine Xn 1 ?_;refine Xn 3 ?_;refine Xn 4 ?_;refine Xn 5 ?_;refine Xn 6 ?_;refine eS (rs:=[2,7]) vZ sP ?_;refine(bQ R (λK hK=>?_) (bQ R (λK hK=>?_) dY))
  .skip
   go_simp;refine(g.o _).mono ?_;rintro e d⟨rfl,a⟩;have b:=Y a;have s1:=a.size;obtain⟨i,-⟩:=NC a;clear a;go_simp;refine hK _ _ trivial λhHeld=>?_;clear hK
   try simp only[Act.put,xA,xB,xC,xD,xE,xF]
   refine Xs 7 λK hK=>?_;go_simp;refine hK _ _ trivial λhHeld=>?_;clear hK;refine Xs 8 λK hK=>?_;have l:=Wa4_ d c (D d (Sc #[Si .u8 (48+(r:I))] 5)) (by rw[h];simp[go_sem]);go_simp;refine hK _ _ trivial λhHeld=>?_;clear hK;refine Xs 9 λK hK=>?_;go_simp;refine hK _ _ trivial λhHeld=>?_;clear hK;refine Xs 10 λK hK=>?_;go_simp;refine hK _ _ trivial λhHeld=>?_;clear hK;refine Yq ?_;go_wp2_with fail
   go_ret;exact⟨by rw[<-f.o];rfl,Xb ((Below.refl (Z w.1) w).drew.trans b.o) _⟩
  skip
  go_simp;refine hK _ _ trivial λhHeld=>?_;clear hK
  try simp only[Act.put,xA,xB,xC,xD,xE,xF]
  refine eS (rs:=[2,8]) vZ sP ?_;refine(bQ R (λK hK=>?_) (bQ R (λK hK=>?_) dY))
  .skip
   go_simp;refine(g.o _).mono ?_;rintro e d⟨rfl,a⟩;have b:=Y a;have s1:=a.size;obtain⟨i,-⟩:=NC a;clear a;have l:=Wa4_ w c d (by rw[h];exact G (i (Z w.1) 0 SC) SC);go_simp;refine hK _ _ trivial λhHeld=>?_;clear hK
   try simp only[Act.put,xA,xB,xC,xD,xE,xF]
   refine Xs 8 λK hK=>?_;go_simp;refine hK _ _ trivial λhHeld=>?_;clear hK;refine Xs 9 λK hK=>?_;go_simp;refine hK _ _ trivial λhHeld=>?_;clear hK;refine Xs 10 λK hK=>?_;go_simp;refine hK _ _ trivial λhHeld=>?_;clear hK;refine Yq ?_;go_wp2_with fail
   go_ret;exact⟨by rw[<-f.o];rfl,(Xb (Below.refl (Z w.1) w) _).drew.trans (b.mono SC)⟩
  skip
  have l:=Wa4_ w c (D w (Sc #[Si .u8 (48+(r:I))] 5)).drew (by rw[h];simp[go_sem]);go_simp;refine hK _ _ trivial λhHeld=>?_;clear hK
  try simp only[Act.put,xA,xB,xC,xD,xE,xF]
  refine Xs 2 λK hK=>?_;go_simp;refine(g.o _).mono ?_;rintro e d⟨rfl,a⟩;have b:=Y a;have s1:=a.size;obtain⟨i,-⟩:=NC a;clear a;go_simp;refine hK _ _ trivial λhHeld=>?_;clear hK;refine Xs 9 λK hK=>?_;go_simp;refine hK _ _ trivial λhHeld=>?_;clear hK;refine Xs 10 λK hK=>?_;go_simp;refine hK _ _ trivial λhHeld=>?_;clear hK;refine Yq ?_;go_wp2_with fail
  go_ret;exact⟨by rw[<-f.o];rfl,(Xb (Below.refl (Z w.1) w) _).drew.trans (b.mono SC)⟩
theorem Wa9_(u:N)(i:0<u)(f:u<=9223372036854775807)(w:Ub):
 Sk prog 21 #[Si S6 (-(u:I))] w λe g=>e=Rt (Sg (K8 (45::Lib.decDigits u)))/\Sw (Z w.1) w g:=by
 have d:=Y λW=>Wa8_ u f W;have h:-(u:I)<0:=O;have m:S6.wrap (u:I)=(u:I):=by
  have k:(0:I)<=u:=O;have l:(u:I)<=9223372036854775807:=O;generalize (u:I)=z at*;simp[IntKind.wrap,IntKind.signed,IntKind.bits];omega
 go_in
 have j:¬9223372036854775807<1+(K8<|Lib.decDigits u).size:=by
  rw[i7];have:=Wa5_ u;omega
 have c:Q ((⟨#[45]⟩:ByteArray)++K8 (Lib.decDigits u)=K8 (45::Lib.decDigits u)):=Y (by exact Waa_);go_wp2_with fail
 refine(d.o _).mono ?_;rintro e n⟨rfl,a⟩;have b:=Y a;clear a;go_wp2_with fail
 go_ret;exact⟨by rw[<-c.o];rfl,b.o⟩
theorem Wba_(b:-9223372036854775807<=t)(c:t<=9223372036854775807):
 Sk prog 21 #[Si S6 t] w λe a=>e=Rt (Sg (K8<|Lib.itoa t))/\Sw (Z w.1) w a:=by
 unfold Lib.itoa;by_cases h:t<0
 .rw[aU h];have:=Wa9_ t.natAbs O O w;rwa[show -(t.natAbs:I)=t by omega]at this
 rw[aM h];have:=Wa8_ t.toNat O w;rwa[show(t.toNat:I)=t by omega]at this
def Wab_(l:Wn):Wo:=l.map λb=>Si .u8 (b.toNat:I)
theorem Wac_(l b):Wab_ (l++[b])=Wab_ l++[Si .u8 (b.toNat:I)]:=by simp[Wab_]
theorem Wad_{a b}:Wab_ (a++b)=Wab_ a++Wab_ b:=by simp[Wab_]
theorem Zx.lower(h:Zx w n k p y)(f:m<=n):Zx w m k p y:=λi c=>by
 obtain⟨b,o,e,d,a⟩:=h i c;exact⟨b,o,e,O,a⟩
theorem Wat_:(prog.info? 5).map (λi=>(i.zero,i.size,i.bytes))=S (S<|.int .u8 0,1,1):=vZ
theorem Gr.trans{c:Ub}{x:Uj}(h:Gr w v a A_)(k:Gr v c A_ x):Gr w c a x :=
 ⟨⟨G k.grown.os h.grown.os,G k.grown.tape h.grown.tape,G k.grown.output h.grown.output,aJ h.grown.size k.grown.size,
  λi d e=>(k.grown.block i (aX d h.grown.size) (λf=>by
   obtain b|b:=h.own i f.symm;·omega
   exact e b.symm)).trans (h.grown.block i d e)⟩,
  λg j=>by
   obtain b|b:=k.own g j;·exact bC<|aJ h.grown.size b
   exact h.own g b⟩
theorem Gr.alloc(h:Gr w v a A_)(o:Obj):Gr w (D v o) a A_ :=
 ⟨⟨h.grown.os,h.grown.tape,h.grown.output,by have:=h.grown.size;simp;omega,λi b c=>G (Below.heap_alloc _ _ _<|aX b h.grown.size) (h.grown.block i b c)⟩,h.own⟩
theorem Wau_(B:N)(u:Uj)(a:Wn)(s:Wn)(w:Ub)(M_:B<=Z w.1)(L:Q (Sx w B 5 1 u (J a) (Wab_ a)))(F:Q (u≠X U 0 0))(j:Q (J a+J s<=1000000000000)):
 Sk prog 20 #[u,Sg (K8 s)] w λC o=>∃v,C=Rt v/\Gr w o u v/\v≠X U 0 0/\Sx o B 5 1 v (J (a++s)) (Wab_<|a++s):=by
 go_in
 obtain⟨K,M,P,T,V⟩:=fX Wat_;have R_:(K8 s).size=J s:=i7 s;have Q_:J s<=1000000000000:=by have:=j.o;omega
 go_wp2
 go_loopw [0,5] (λx i wr=>∃k:N,k<=J s/\i=Si S6 k/\Q (Gr w wr u x)/\Q (x≠X U 0 0)/\Q (Sx wr B 5 1 x (J (a++s.take k)) (Wab_<|a++s.take k))) λ_ i _=>J s-(intOf i).toNat
 case atStart=>exact⟨0,aN,R,Y<|Gr.refl _ _,F,Y<|by simpa using L.o⟩
 obtain⟨k,N_,rfl,b,r,e⟩:=hrel;have S_:=b.grown.size;by_cases W:k<J s
 .have O_:k<(K8 s).size:=O;have A_:Q (a++s.take (k+1)=(a++s.take k)++[(K8 s)[k]]):=Y (by rw[bN W,cK];rfl);have d:Q (J (a++s.take k)+1<=1000000000000):=Y (by have:=j.o;simp only[aQ,dH];omega);go_wp2_with (at_builtin;refine bT _ R _ _ 22 R B 5 K (Si .u8 0) 1 1 underlying22 M P T V R vY _ _ _ R (e.alloc _) ⟨Z wr.1,0,U⟩ 1 1 [Si .u8 (((K8 s)[k]).toNat:I)] R R ?c1 ?c2 ?c3 ?c4 ?c5 ?_)
  case c1=>exact cell_one_new _ _ _
  case c2=>intro u n;simp at n;subst n;rfl
  case c3=>have:=d.o;unfold maxLen;omega
  case c4=>have:=d.o;omega
  case c5=>simp;omega
  intro v1 p m g l f;have y:Q (Sx p B 5 1 v1 (J (a++s.take (k+1))) (Wab_<|a++s.take (k+1))):=Y (by rw[show J (a++s.take (k+1))=J a+k+1 by simp only[aQ,dH];omega,A_.o,Wac_];exact m);have t:Q (v1≠X U 0 0):=Y l;have q:Q (Gr w p u v1):=Y (b.trans (Gr.trans ((Gr.refl _ _).alloc _) ⟨g,λL_ c=>by
   obtain h|h:=f;·exact aZ (h▸c)
   rw[h]at c;cases c;exact bC sP⟩))
  clear m g l f;go_wp2;exact⟨⟨k+1,O,gM,q,t,y⟩,SA⟩
 have P_:k=J s:=O;have z:Q (Sx wr B 5 1 u0 (J (a++s)) (Wab_<|a++s)):=Y (by have:=e.o;rwa[aW O]at this);go_wp2;go_ret;exact⟨_,R,b.o,r.o,z.o⟩
def Wbb_:List I->List UInt8
 |[]=>[]
 |v::r=>32::(Lib.itoa v++Wbb_ r)
theorem Wbc_:Wbb_ (l++[t])=Wbb_ l++32::Lib.itoa t:=by
 induction l with
 |nil=>simp[Wbb_]
 |cons x r a=>simp[Wbb_,a]
theorem Wbd_(a b:Wc):Wbb_ (a++b)=Wbb_ a++Wbb_ b:=by
 induction a with
 |nil=>rfl
 |cons x r c=>simp[Wbb_,c]
theorem Wbe_(a:Wc):J a<=J (Wbb_ a):=by
 induction a with
 |nil=>exact aN
 |cons x r b=>simp only[Wbb_,bA,aQ];omega
theorem Wbf_(a:Wc)(k:N):J (Wbb_<|a.take k)<=J (Wbb_ a):=by
 have:=fI List.length<|Wbd_ (a.take k) (a.drop k);rw[hH,aQ]at this;omega
def Wbg_(b:Wn)(a:Wc):Wn:=b++(Wbb_ a++[10])
theorem Gr.same(h:Gr w v a A_)(b:∀g,a.ownBlock=S g->g<n\/m<=g)(f:m<=Z w.1):YA n m w v:=λk c d=>
 h.grown.block k O λe=>by have:=b k e.symm;omega
theorem Gr.calm(h:Sw (Z w.1) w v)(u:Uj):Gr w v u u:=⟨⟨h.os,h.tape,h.output,h.size,λk a _=>h.block k a⟩,λ_ e=>aZ e⟩
theorem Wbh_(c:Sx w n m k a B y)(h:Sw (Z w.1) w v):Sx v n m k a B y:=by
 refine c.kept (row:=U) ⟨h.os,h.tape,h.output,h.size,λd b _=>h.block d b⟩ ?_;cases hu:a.ownBlock with
 |none=>exact bC R
 |some g=>exact aZ sP
theorem Wbi_{xs b:Wn}{L M:N}(hB:n<=Z w.1)(ho:Q (Sx w n 5 1 a (J xs) (Wab_ xs)))(hn:Q (a≠X U 0 0))(h:Q (J xs+J (Wbg_ b l)<=1000000000000))(hv:Q (Xf w L M p l))(hm:M<=Z w.1)(ab:Q (∀g,a.ownBlock=S g->g<L\/M<=g))(z:Q (m=J l))(ad:Q (∀v∈l,-9223372036854775807<=v/\v<=9223372036854775807)):
 Sk prog 11 #[a,Sg (K8 b),X p m c] w λe o=>∃v,e=Rt v/\Gr w o a v/\v≠X U 0 0/\Sx o n 5 1 v (J (xs++Wbg_ b l)) (Wab_<|xs++Wbg_ b l):=by
 obtain⟨i0,ac,af,aj,ao⟩:=fX Wat_
 go_in
 have aa:Q (J xs+J b<=1000000000000):=Y (by have:=h.o;unfold Wbg_ at this;simp only[aQ]at this;omega);go_wp2_with (go_at_call 20;refine(Wau_ n a xs b w hB ho hn aa).mono ?_;rintro e B⟨x1,rfl,x,F,T⟩)
 have K:=Y x;have P:=Y F;have W:=Y T;have al:=x.grown.size;clear x F T;have a1:m<=1000000000000:=by
  have:=h.o;have e:=z.o;have a3:=Wbe_ l;unfold Wbg_ at this;simp only[aQ]at this;omega
 go_wp2
 go_loopw [0,7] (λC A_ wr=>∃k:N,k<=m/\A_=Si S6 k/\Q (Gr w wr a C)/\Q (C≠X U 0 0)/\Q (Sx wr n 5 1 C (J (xs++(b++Wbb_ (l.take k)))) (Wab_<|xs++(b++Wbb_ (l.take k))))) λ_ A_ _=>m-(intOf A_).toNat
 case atStart=>exact⟨0,aN,R,K,P,Y<|by simpa [Wbb_]using W.o⟩
 clear K P W al;obtain⟨k,hk,rfl,f,HN,H_⟩:=hrel;have a2:=f.grown.size;by_cases a0:k<m
 .have y:k<J l:=by have:=z.o;omega
  obtain⟨ap,o_,rfl,aq,hc⟩:=(hv.keepS<|f.same ab.o hm) k y;have F_:=Y<|ad.o l[k] (aH y);have J_:Q (xs++(b++Wbb_ (l.take<|k+1))=(xs++(b++Wbb_ (l.take k)))++32::Lib.itoa l[k]):=Y (by rw[bN y,Wbc_];simp);have d:Q (J (xs++(b++Wbb_ (l.take k)))+J (32::Lib.itoa l[k])<=1000000000000):=Y (by
   have K_:=h.o;have h2:=fI List.length J_.o;have h3:=Wbf_ l<|k+1;unfold Wbg_ at K_;simp only[aQ,bA]at K_ h2 h3 |-;omega)
  generalize l[k]=V at*;have ar:¬9223372036854775807<1+(K8<|Lib.itoa V).size:=by
   rw[i7];have:=d.o;simp only[aQ,bA]at this;omega
  have HE:Q ((⟨#[32]⟩:ByteArray)++K8 (Lib.itoa V)=K8 (32::Lib.itoa V)):=Y (by exact Waa_);go_wp2_with (go_at_call 21;refine(Wba_ F_.1 F_.2).mono ?_;rintro e w2⟨rfl,t⟩)
  have D_:=Y t;have s2:=t.size;clear t;have q:=Y<|Wbh_ H_.o D_.o;go_wp2_with (go_at_call 20;rw[HE.o];refine(Wau_ n u0 _ _ w2 O q HN d).mono ?_;rintro e Z_⟨x3,rfl,O_,R_,U_⟩)
  have i:Q (Gr w Z_ a x3):=Y<|f.trans ((Gr.calm D_.o _).trans O_);have j:=Y R_;have r:Q (Sx Z_ n 5 1 x3 (J (xs++(b++Wbb_ (l.take<|k+1)))) (Wab_<|xs++(b++Wbb_ (l.take<|k+1)))):=Y (by rw[J_.o];exact U_);clear O_ R_ U_;go_wp2;exact⟨⟨k+1,O,gM,i,j,r⟩,SA⟩
 have az:k=m:=O;have q:Q (Sx wr n 5 1 u0 (J (xs++(b++Wbb_ l))) (Wab_<|xs++(b++Wbb_ l))):=Y (by have:=H_.o;rwa[aW (by have:=z.o;omega)]at this);have d:Q (J (xs++(b++Wbb_ l))+1<=1000000000000):=Y (by have:=h.o;unfold Wbg_ at this;simp only[aQ,bA,bO]at this |-;omega);go_wp2_with (at_builtin;refine bT _ R _ _ 22 R n 5 i0 (Si .u8 0) 1 1 underlying22 ac af aj ao R vY _ _ _ R (q.alloc _) ⟨Z wr.1,0,U⟩ 1 1 [Si .u8 10] R R ?c1 ?c2 ?c3 ?c4 ?c5 ?_)
 case c1=>exact cell_one_new _ _ _
 case c2=>intro a X_;simp at X_;subst X_;rfl
 case c3=>have:=d.o;unfold maxLen;omega
 case c4=>have:=d.o;omega
 case c5=>simp;omega
 intro v1 B W_ P_ S_ N_;have r:Q (Sx B n 5 1 v1 (J (xs++Wbg_ b l)) (Wab_<|xs++Wbg_ b l)):=Y (by
  have e:xs++Wbg_ b l=(xs++(b++Wbb_ l))++[10]:=by simp[Wbg_]
  rw[e,Wac_,show J ((xs++(b++Wbb_ l))++[(10:UInt8)])=J xs+(J b+J (Wbb_ l))+1 by simp only[aQ,bA,bO]];exact W_)
 have j:=Y S_;have i:Q (Gr w B a v1):=Y (f.trans (Gr.trans ((Gr.refl _ _).alloc _) ⟨P_,λg u=>by
  obtain s|s:=N_;·exact aZ (s▸u)
  rw[s]at u;cases u;exact bC sP⟩))
 clear W_ P_ S_ N_;go_wp2;go_ret;exact⟨_,R,i.o,j.o,r.o⟩
def Wbj_(t:Yj):Wn :=
 if t.kind=1 then Wbg_ [106,117,109,112] [t.to]else if t.kind=3 then Wbg_ [114,101,116] [t.a]else Wbg_ [98,114,97,110,99,104] [t.a,t.to,t.els]
theorem Wbk_(w:Ub)(a:Wc):Xf (D w (Sc (a.map<|Value.int S6).toArray 2)) (Z w.1) (Z w.1+1) (S ⟨Z w.1,0,U⟩) a:=λi b=>
 ⟨_,0,R,⟨aA,iJ⟩,by simp[b]⟩
theorem Wbl_{b c:Wn}(o:Obj)(t:n<=Z w.1)(g:Q (Sx w n 5 1 a (J b) (Wab_ b)))(r:Q (a≠X U 0 0))(q:Q (J b+J (Wbg_ c l)<=1000000000000))(p:∀v∈l,-9223372036854775807<=v/\v<=9223372036854775807):
 Sk prog 11 #[a,Sg (K8 c),X (S ⟨Z w.1+1,0,U⟩) (J l) (J l)] (D (D w o) (Sc (l.map<|Value.int S6).toArray 2)) λe d=>
  ∃v,e=Rt v/\Gr w d a v/\v≠X U 0 0/\Sx d n 5 1 v (J (b++Wbg_ c l)) (Wab_<|b++Wbg_ c l):=by
 have f:=Wbk_ (D w o) l;have s:Z (D w o).1=Z w.1+1:=sP;rw[s]at f;refine(Wbi_ SB (Y<|(g.alloc _).alloc _) r q (Y f) sP (Y λh m=>bC (by have:=(g.lt h m).2;omega)) (Y R) (Y p)).mono ?_;rintro e d⟨v,rfl,i,j,k⟩;exact⟨v,R,(((Gr.refl _ _).alloc _).alloc _).trans i,j,k⟩
theorem Wbm_{i:Wn}{t:Yj}(l:n<=Z w.1)(q:t.kind=1\/t.kind=2\/t.kind=3)(p:Q (Sx w n 5 1 a (J i) (Wab_ i)))(o:Q (a≠X U 0 0))(m:Q (J i+J (Wbj_ t)<=1000000000000))(k:Q (∀v∈[t.a,t.to,t.els],-9223372036854775807<=v/\v<=9223372036854775807)):
 Sk prog 24 #[a,Sa #[Si S6 t.kind,Si S6 t.a,Si S6 t.to,Si S6 t.els]] w λj r=>∃v,j=Rt v/\Gr w r a v/\v≠X U 0 0/\Sx r n 5 1 v (J (i++Wbj_ t)) (Wab_<|i++Wbj_ t):=by
 obtain⟨y,z,tg,x⟩:=t;simp only at q k |-;obtain rfl|rfl|rfl:=q
 .go_in
  go_wp2_with (go_at_call 11;refine(Wbl_ _ l p o m λv h=>k.o v (by simp at h |-;omega)).mono ?_;rintro j s⟨u,rfl,b,c,d⟩)
  have e:=Y b;have f:=Y c;have g:=Y d;clear b c d;go_wp2;go_ret;exact⟨_,R,e.o,f.o,g.o⟩
 .go_in
  go_wp2_with (go_at_call 11;refine(Wbl_ _ l p o m λv h=>k.o v (by simp at h |-;omega)).mono ?_;rintro j s⟨u,rfl,b,c,d⟩)
  have e:=Y b;have f:=Y c;have g:=Y d;clear b c d;go_wp2;go_ret;exact⟨_,R,e.o,f.o,g.o⟩
 go_in
 go_wp2_with (go_at_call 11;refine(Wbl_ _ l p o m λv h=>k.o v (by simp at h |-;omega)).mono ?_;rintro j s⟨u,rfl,b,c,d⟩)
 have e:=Y b;have f:=Y c;have g:=Y d;clear b c d;go_wp2;go_ret;exact⟨_,R,e.o,f.o,g.o⟩
def Wav_(x:Yg)(l:Wn):Wc:=l.flatMap<|Pz x
theorem Waw_{x:Yg}{l:Wn}(c:UInt8):Wav_ x (l++[c])=Wav_ x l++Pz x c:=by simp[Wav_]
theorem Wax_(x:Yg)(l:Wn):J (Wav_ x l)<=J l:=by
 induction l with
 |nil=>simp[Wav_]
 |cons c r a=>
  have:J (Pz x c)<=1:=by
   unfold Pz
   repeat' split
   all_goals simp
  simp only[Wav_,jF,aQ,bA]at a |-;omega
theorem Way_(x:Yg){l:Wn}:∀v∈Wav_ x l,v∈[x.dst,x.a,x.b,x.imm]:=by
 intro v a;obtain⟨c,-,h⟩:=bV.1 a;unfold Pz at h
 repeat' split at h
 all_goals simp at h
 all_goals simp[h]
def Waz_(a:I):Wn:=(Kz a).data.toList
theorem Wa0_(a:I):J (Waz_ a)=(Kz a).size:=by unfold Waz_;rw[Array.length_toList];rfl
def Wa1_(x:Yg):Wn:=Wbg_ (bz x.op) (Wav_ x<|Waz_ x.op)
theorem Wa2_{C:Wn}{x:Yg}(hB:n<=Z w.1)(R_:1<=x.op/\x.op<=13)(P_:Q (Sx w n 5 1 a (J C) (Wab_ C)))(hn:Q (a≠X U 0 0))(al:Q (J C+J (Wa1_ x)<=1000000000000))(aj:Q (∀v∈[x.dst,x.a,x.b,x.imm],-9223372036854775807<=v/\v<=9223372036854775807)):
 Sk prog 23 #[a,Sa #[Si S6 x.op,Si S6 x.dst,Si S6 x.a,Si S6 x.b,Si S6 x.imm]] w λe T_=>∃v,e=Rt v/\Gr w T_ a v/\v≠X U 0 0/\Sx T_ n 5 1 v (J (C++Wa1_ x)) (Wab_<|C++Wa1_ x):=by
 obtain⟨M,P,T,F,V⟩:=fX RH;have ac:=Y R_;clear R_;have HS:=Y<|q7 x.op
 go_in
 go_wp2_with (go_at_call 53;refine(qX _ _).mono ?_;rintro e K⟨rfl,B⟩;rw[B];clear B K)
 go_loopw [5,7] (λv W wr=>∃k:N,k<=(Kz x.op).size/\W=Si S6 k/\Q (Sw (Z w.1+1) (D w (Sc #[Si S6 x.op,Si S6 x.dst,Si S6 x.a,Si S6 x.b,Si S6 x.imm] 59)) wr)/\Q (v≠X U 0 0)/\Q (Sx wr (Z w.1+1) 2 1 v (J (Wav_ x<|(Waz_ x.op).take k)) ((Wav_ x<|(Waz_ x.op).take k).map (Si S6)))) λ_ W _=>(Kz x.op).size-(intOf W).toNat
 case atStart=>exact⟨0,aN,R,Y<|(Rf).alloc sP _,Y sP,Y<|K5 w _⟩
 obtain⟨k,hk,rfl,b,Y_,j⟩:=hrel;have S_:=b.size;have S_:Z w.1+1<=Z wr.1:=by simpa using S_
 have c0:E wr ⟨Z w.1,0,U⟩=S (Si S6 x.op):=G (b.cell (p:=⟨Z w.1,0,U⟩) (iJ)) sP;have c1:E wr ⟨Z w.1,1,U⟩=S (Si S6 x.dst):=G (b.cell (p:=⟨Z w.1,1,U⟩) (iJ)) sP;have c2:E wr ⟨Z w.1,2,U⟩=S (Si S6 x.a):=G (b.cell (p:=⟨Z w.1,2,U⟩) (iJ)) sP;have c3:E wr ⟨Z w.1,3,U⟩=S (Si S6 x.b):=G (b.cell (p:=⟨Z w.1,3,U⟩) (iJ)) sP;have c4:E wr ⟨Z w.1,4,U⟩=S (Si S6 x.imm):=G (b.cell (p:=⟨Z w.1,4,U⟩) (iJ)) sP;by_cases L:k<(Kz x.op).size
 .have z:k<J (Waz_ x.op):=by rw[Wa0_];exact L
  have ao:(Kz x.op).size<=3:=HS.o;have o:Q (J (Wav_ x<|(Waz_ x.op).take k)+1<=1000):=Y (by have:=Wax_ x<|(Waz_ x.op).take k;simp only[dH]at this;omega);by_cases t:(Waz_ x.op)[k]=100
  .have m:Q (Wav_ x ((Waz_ x.op).take (k+1))=Wav_ x ((Waz_ x.op).take k)++[x.dst]):=Y<|by rw[bN z,Waw_,show(Waz_ x.op)[k]=100 from t];rfl
   have I_:(((Kz x.op)[k]).toNat:I)=100:=by
    have e:(Kz x.op)[k]'L=100:=t;exact fI (λc:UInt8=>(c.toNat:I)) e
   clear t;go_wp2_with (at_builtin;refine bT _ R _ _ 35 R (Z w.1+1) 2 M (Si S6 0) 1 8 underlying35 P T F V R vY _ _ _ R (j.alloc _) ⟨Z wr.1,0,U⟩ 1 1 [Si S6 x.dst] R R ?c1 ?c2 ?c3 ?c4 ?c5 ?_)
   case c1=>exact cell_one_new _ _ _
   case c2=>intro a h;simp at h;subst h;rfl
   case c3=>have:=o.o;unfold maxLen;omega
   case c4=>have:=o.o;omega
   case c5=>simp;omega
   intro v1 i g d f r;have l:Q (Sx i (Z w.1+1) 2 1 v1 (J (Wav_ x<|(Waz_ x.op).take (k+1))) ((Wav_ x<|(Waz_ x.op).take (k+1)).map (Si S6))):=Y (by rw[m.o,BE,aQ];exact g);have q:=Y f;have p:Q (Sw (Z w.1+1) (D w (Sc #[Si S6 x.op,Si S6 x.dst,Si S6 x.a,Si S6 x.b,Si S6 x.imm] 59)) i):=Y<|Xy ((b.o).alloc O _) d (j.alloc _) (aA) SB;clear g d f r;go_wp2;exact⟨⟨k+1,O,gM,p,q,l⟩,SA⟩
  skip
  by_cases ha:(Waz_ x.op)[k]=97
  .have m:Q (Wav_ x ((Waz_ x.op).take (k+1))=Wav_ x ((Waz_ x.op).take k)++[x.a]):=Y<|by rw[bN z,Waw_,show(Waz_ x.op)[k]=97 from ha];rfl
   have I_:(((Kz x.op)[k]).toNat:I)=97:=by
    have e:(Kz x.op)[k]'L=97:=ha;exact fI (λc:UInt8=>(c.toNat:I)) e
   clear ha;go_wp2_with (at_builtin;refine bT _ R _ _ 35 R (Z w.1+1) 2 M (Si S6 0) 1 8 underlying35 P T F V R vY _ _ _ R (j.alloc _) ⟨Z wr.1,0,U⟩ 1 1 [Si S6 x.a] R R ?c1 ?c2 ?c3 ?c4 ?c5 ?_)
   case c1=>exact cell_one_new _ _ _
   case c2=>intro a h;simp at h;subst h;rfl
   case c3=>have:=o.o;unfold maxLen;omega
   case c4=>have:=o.o;omega
   case c5=>simp;omega
   intro v1 i g d f r;have l:Q (Sx i (Z w.1+1) 2 1 v1 (J (Wav_ x<|(Waz_ x.op).take (k+1))) ((Wav_ x<|(Waz_ x.op).take (k+1)).map (Si S6))):=Y (by rw[m.o,BE,aQ];exact g);have q:=Y f;have p:Q (Sw (Z w.1+1) (D w (Sc #[Si S6 x.op,Si S6 x.dst,Si S6 x.a,Si S6 x.b,Si S6 x.imm] 59)) i):=Y<|Xy ((b.o).alloc O _) d (j.alloc _) (aA) SB;clear g d f r;go_wp2;exact⟨⟨k+1,O,gM,p,q,l⟩,SA⟩
  skip
  by_cases s:(Waz_ x.op)[k]=98
  .have m:Q (Wav_ x ((Waz_ x.op).take (k+1))=Wav_ x ((Waz_ x.op).take k)++[x.b]):=Y<|by rw[bN z,Waw_,show(Waz_ x.op)[k]=98 from s];rfl
   have I_:(((Kz x.op)[k]).toNat:I)=98:=by
    have e:(Kz x.op)[k]'L=98:=s;exact fI (λc:UInt8=>(c.toNat:I)) e
   clear s;go_wp2_with (at_builtin;refine bT _ R _ _ 35 R (Z w.1+1) 2 M (Si S6 0) 1 8 underlying35 P T F V R vY _ _ _ R (j.alloc _) ⟨Z wr.1,0,U⟩ 1 1 [Si S6 x.b] R R ?c1 ?c2 ?c3 ?c4 ?c5 ?_)
   case c1=>exact cell_one_new _ _ _
   case c2=>intro a h;simp at h;subst h;rfl
   case c3=>have:=o.o;unfold maxLen;omega
   case c4=>have:=o.o;omega
   case c5=>simp;omega
   intro v1 i g d f r;have l:Q (Sx i (Z w.1+1) 2 1 v1 (J (Wav_ x<|(Waz_ x.op).take (k+1))) ((Wav_ x<|(Waz_ x.op).take (k+1)).map (Si S6))):=Y (by rw[m.o,BE,aQ];exact g);have q:=Y f;have p:Q (Sw (Z w.1+1) (D w (Sc #[Si S6 x.op,Si S6 x.dst,Si S6 x.a,Si S6 x.b,Si S6 x.imm] 59)) i):=Y<|Xy ((b.o).alloc O _) d (j.alloc _) (aA) SB;clear g d f r;go_wp2;exact⟨⟨k+1,O,gM,p,q,l⟩,SA⟩
  skip
  by_cases u:(Waz_ x.op)[k]=105
  .have m:Q (Wav_ x ((Waz_ x.op).take (k+1))=Wav_ x ((Waz_ x.op).take k)++[x.imm]):=Y<|by rw[bN z,Waw_,show(Waz_ x.op)[k]=105 from u];rfl
   have I_:(((Kz x.op)[k]).toNat:I)=105:=by
    have e:(Kz x.op)[k]'L=105:=u;exact fI (λc:UInt8=>(c.toNat:I)) e
   clear u;go_wp2_with (at_builtin;refine bT _ R _ _ 35 R (Z w.1+1) 2 M (Si S6 0) 1 8 underlying35 P T F V R vY _ _ _ R (j.alloc _) ⟨Z wr.1,0,U⟩ 1 1 [Si S6 x.imm] R R ?c1 ?c2 ?c3 ?c4 ?c5 ?_)
   case c1=>exact cell_one_new _ _ _
   case c2=>intro a h;simp at h;subst h;rfl
   case c3=>have:=o.o;unfold maxLen;omega
   case c4=>have:=o.o;omega
   case c5=>simp;omega
   intro v1 i g d f r;have l:Q (Sx i (Z w.1+1) 2 1 v1 (J (Wav_ x<|(Waz_ x.op).take (k+1))) ((Wav_ x<|(Waz_ x.op).take (k+1)).map (Si S6))):=Y (by rw[m.o,BE,aQ];exact g);have q:=Y f;have p:Q (Sw (Z w.1+1) (D w (Sc #[Si S6 x.op,Si S6 x.dst,Si S6 x.a,Si S6 x.b,Si S6 x.imm] 59)) i):=Y<|Xy ((b.o).alloc O _) d (j.alloc _) (aA) SB;clear g d f r;go_wp2;exact⟨⟨k+1,O,gM,p,q,l⟩,SA⟩
  skip
  have m:Q (Wav_ x ((Waz_ x.op).take (k+1))=Wav_ x ((Waz_ x.op).take k)):=Y (by rw[bN z,Waw_];unfold Pz;rw[aM t,aM ha,aM s,aM u,fF]);have gd:((((Kz x.op)[k]).toNat:I)==100)=Sn:=by
   rw[iS];intro e;exact t<|UInt8.toNat_inj.1 (by have:(((Waz_ x.op)[k]).toNat:I)=100:=e;show _=100;omega)
  have ga:((((Kz x.op)[k]).toNat:I)==97)=Sn:=by
   rw[iS];intro e;exact ha<|UInt8.toNat_inj.1 (by have:(((Waz_ x.op)[k]).toNat:I)=97:=e;show _=97;omega)
  have gb:((((Kz x.op)[k]).toNat:I)==98)=Sn:=by
   rw[iS];intro e;exact s<|UInt8.toNat_inj.1 (by have:(((Waz_ x.op)[k]).toNat:I)=98:=e;show _=98;omega)
  have gi:((((Kz x.op)[k]).toNat:I)==105)=Sn:=by
   rw[iS];intro e;exact u<|UInt8.toNat_inj.1 (by have:(((Waz_ x.op)[k]).toNat:I)=105:=e;show _=105;omega)
  clear t ha s u;have l:Q (Sx wr (Z w.1+1) 2 1 u5 (J (Wav_ x<|(Waz_ x.op).take (k+1))) ((Wav_ x<|(Waz_ x.op).take (k+1)).map (Si S6))):=Y (by rw[m.o];exact j.o);go_wp2;exact⟨⟨k+1,O,gM,b,Y_,l⟩,SA⟩
 have aa:Q (Sx wr (Z w.1+1) 2 1 u5 (J (Wav_ x<|Waz_ x.op)) ((Wav_ x<|Waz_ x.op).map (Si S6))):=Y (by have:=j.o;rwa[aW<|by rw[Wa0_];omega]at this);obtain⟨a5,c5,rfl,M_⟩:=Xk aa.o;have W_:=Y M_;clear M_;have L_:Q (Sw (Z w.1) w wr):=Y<|(Xb (Below.refl (Z w.1) w) _).trans (b.mono<|gX);have ad:=Y<|Wbh_ P_.o L_.o;have U_:Q (∀y,a.ownBlock=S y->y<Z w.1+1\/Z wr.1<=y):=Y (λy hg=>bC (by have:=(P_.lt y hg).2;omega));have X_:Q (∀v∈Wav_ x (Waz_ x.op),-9223372036854775807<=v/\v<=9223372036854775807):=Y λv af=>aj.o v<|Way_ x v af;go_wp2_with (first|(go_at_call 54;refine(Lb _ ac.o _).mono ?_;rintro e K⟨rfl,B⟩;rw[B];clear B K)|(go_at_call 11;refine(Wbi_ O ad hn al W_ (aA) U_ (Y R) X_).mono ?_;rintro e w3⟨x3,rfl,N_,O_,Q_⟩))
 have V_:Q (Gr w w3 a x3):=Y<|(Gr.calm L_.o _).trans N_;have Z_:=Y O_;have ab:=Y Q_;clear N_ O_ Q_;go_wp2;go_ret;exact⟨_,R,V_.o,Z_.o,ab.o⟩
def Wbn_(v:I):Prop:=-9223372036854775807<=v/\v<=9223372036854775807
theorem Wbo_(k:N):∀u,u<10^(k+1)->J (Lib.decDigits u)<=k+1:=by
 induction k with
 |zero=>intro u h;rw[Lib.decDigits_one SI];simp
 |succ k b=>
  intro u h;by_cases a:u<10;·rw[Lib.decDigits_one a];simp
  rw[Wa3_ a,aQ,List.length_singleton];have:=b (u/10) (by rw[Nat.pow_succ]at h;omega);omega
theorem Wbp_(h:Wbn_ t):J (Lib.itoa t)<=20:=by
 unfold Wbn_ at h;unfold Lib.itoa;by_cases a:t<0
 .rw[aU a,bA];have:=Wbo_ 18 t.natAbs O;omega
 rw[aM a];have:=Wbo_ 18 t.toNat O;omega
theorem Wbq_(h:∀v∈l,Wbn_ v):J (Wbb_ l)<=21*J l:=by
 induction l with
 |nil=>simp[Wbb_]
 |cons x r b=>
  have c:=Wbp_<|h x (cI ..);have d:=b λv a=>h v<|cN _ a;simp only[Wbb_,bA,aQ];omega
theorem Wbr_(b:Wn)(a:Wc)(h:∀v∈a,Wbn_ v):J (Wbg_ b a)<=J b+21*J a+1:=by
 have:=Wbq_ h;simp only[Wbg_,aQ,List.length_singleton];omega
theorem Wbs_(a:I):J (bz a)<=5:=by
 by_cases h:1<=a/\a<=13
 .have b:a=1\/a=2\/a=3\/a=4\/a=5\/a=6\/a=7\/a=8\/a=9\/a=10\/a=11\/a=12\/a=13:=O;obtain rfl|rfl|rfl|rfl|rfl|rfl|rfl|rfl|rfl|rfl|rfl|rfl|rfl:=b<;>decide
 unfold bz;rw[aM O,aM O,aM O,aM O,aM O,aM O,aM O,aM O,aM O,aM O,aM O,aM O];decide
theorem Wbt_{x:Yg}(h:∀v∈[x.dst,x.a,x.b,x.imm],Wbn_ v):J (Wa1_ x)<=100:=by
 have b:=Wbr_ (bz x.op) (Wav_ x<|Waz_ x.op) λv a=>h v<|Way_ x v a;have c:=Wax_ x<|Waz_ x.op;have d:=Wa0_ x.op;have e:=q7 x.op;have f:=Wbs_ x.op;unfold Wa1_;omega
theorem Wbu_{t:Yj}(h:∀v∈[t.a,t.to,t.els],Wbn_ v):J (Wbj_ t)<=90:=by
 unfold Wbj_;have b:=Wbr_ [106,117,109,112] [t.to] (λv a=>h v (by simp at a |-;omega));have c:=Wbr_ [114,101,116] [t.a] (λv a=>h v (by simp at a |-;omega));have d:=Wbr_ [98,114,97,110,99,104] [t.a,t.to,t.els] h;simp only[bA,bO]at b c d
 repeat' split
 all_goals omega
theorem Wbv_{a:Vr}(h:∀i∈a,∀v∈[i.dst,i.a,i.b,i.imm],Wbn_ v):J (a.flatMap Wa1_)<=100*J a:=by
 induction a with
 |nil=>simp
 |cons p r b=>
  have c:=Wbt_<|h p (cI ..);have d:=b λq hq=>h q<|cN _ hq;simp only[jF,aQ,bA];omega
section
variable {w w': Ub} {L B: N}
def Wae_(a:List ag):N:=(a.map λx=>J x.is).sum
def Waf_(a:List ag):N:=(a.map λx=>1+J x.is).sum
theorem Wag_{a:List ag}(p:ag):Wae_ (a++[p])=Wae_ a+J p.is:=by simp[Wae_]
theorem Wah_{a:List ag}(p:ag):Waf_ (a++[p])=Waf_ a+(1+J p.is):=by simp[Waf_]
theorem Wai_(a:List ag)(k):Wae_ (a.take k)<=Wae_ a:=Tw _ _ _
theorem Waj_(a:List ag)(k):Waf_ (a.take k)<=Waf_ a:=Tw _ _ _
theorem Wak_(a:List ag):Waf_ a=J a+Wae_ a:=by
 induction a with
 |nil=>rfl
 |cons x a b=>
  simp only[Waf_,Wae_,eH,kX,bA]at b |-;omega
theorem Wal_{a:List ag}{x:ag}(h:x∈a):J x.is<=Wae_ a:=by
 induction a with
 |nil=>cases h
 |cons y b c=>
  have d:Wae_ (y::b)=J y.is+Wae_ b:=by simp[Wae_]
  obtain rfl|h:=cH.1 h;·omega
  have:=c h;omega
def Wam_(v:I)(n:N)(x:ag):Bool:=x.is.all (Yw v 13)&&Zu v 0 n x.te
def Wan_(v:I)(a:List ag):Bool:=decide (1<=v)&&decide (v<=64)&&decide (1<=J a)&&decide (J a<=3000)&&decide (Waf_ a<=20000)
def Wao_(v:I)(a:List ag):Bool:=Wan_ v a&&a.all (Wam_ v (J a))
theorem Wap_{v}{a:List ag}(b:1<=v)(c:v<=64)(d:1<=J a)(e:J a<=3000)(f:Waf_ a<=20000):Wan_ v a=So:=by simp[Wan_, *]
theorem Waq_{v}{a:List ag}(h:¬(1<=v/\v<=64/\1<=J a/\J a<=3000/\Waf_ a<=20000)):Wan_ v a=Sn:=by
 rw[lY];intro e;simp only[Wan_,bY,bD]at e;omega
theorem War_{v}{a:List ag}(h:¬(1<=v/\v<=64/\1<=J a/\J a<=3000/\Waf_ a<=20000)):Wao_ v a=Sn:=by
 unfold Wao_;rw[Waq_ h];rfl
theorem Was_{a:List ag}(h:J a+Wae_ a<=16777216):∀x∈a,J x.is<=16777216:=λx b=>by
 have c:=Wal_ b;omega
end
end Go.Proofs.YtnggdhnpjfigjaaGreatDoor
