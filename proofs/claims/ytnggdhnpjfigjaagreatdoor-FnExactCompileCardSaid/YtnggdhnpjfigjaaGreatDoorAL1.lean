import Derived.Laws.Bits128
import Derived.Test.YtnggdhnpjfigjaaGreatDoorLB0
namespace Go.Proofs.YtnggdhnpjfigjaaGreatDoor
set_option maxHeartbeats 8000000
set_option maxRecDepth 100000
open _root_ renaming Array.size->Z,List.length->J,Nat->N,rfl->R,Option.some->S,Option.none->U,Bool.true->So,Int->I,List.range->Rg,Bool.false->Sn
open Go renaming World.alloc->D,Obj.cells->Sc,Ending.returned->Rt,IntKind.i64->S6,Calls->Sk,RowKit.Below->Sw,World.cell?->E,undef->Su,World.ownsRow->Sx
open Value renaming slice->X,agg->Sa,pointer->Sj,int->Si,tuple->St,string->Sg,bool->Sb
open Go.RowKit Go.Shelf Go.Proofs.Tryz
variable{r:Bool}{t T z:I}{n m k B g i j c:N}{w v:Ub}{a:Uj}{p:Uy}{s:Wa}{l:Wc}{x:Wi}{f:Wk}{q:Xe}
section
attribute [local go_sem] Oper.semAt_some
theorem FX(h:XA f)(i:N):f i<18446744073709551616:=h i
theorem qW(W i j)(a:j<64):Xh W (64*i+j)=(W i).testBit j:=by
 unfold Xh;rw[show(64*i+j)/64=i by omega,show(64*i+j)%64=j by omega]
structure ji(W:Wk)(i k y:N):Prop where
 le:k<=64
 lt:y<18446744073709551616
 bit:∀j,y.testBit j=((W i).testBit j&&decide (k<=j))
theorem ji.start(h:XA f)(i:N):ji f i 0 (f i):=⟨vY,FX h i,λj=>sP⟩
theorem ji.next(l:ji f n m k)(d:k≠0):ji f n (Lib.ctz 64 k+1) (k&&&(k-1))/\Mq f (64*n+(Lib.ctz 64 k+1))=Mq f (64*n+m)++[64*n+Lib.ctz 64 k]/\Lib.ctz 64 k<64/\(k&&&(k-1))<k:=by
 have i:k<2^64:=l.2;let⟨y,x,p⟩:=qh d i;have h:=Fs d i;have v:=EY d i;have b:=l.3;have w:k&&&(k-1)<=k-1:=Nat.and_le_right;generalize Lib.ctz 64 k=c at*;have u:m<=c/\(f n).testBit c=So:=by
  have a:=h.1;rw[b,bY,bD]at a;exact⟨a.2,a.1⟩
 refine⟨⟨O,O,λj=>?_⟩,?_,p,O⟩
 .rw[v,b];by_cases e:j=c;·subst e;simp
  by_cases e2:j<c
  .have g:=h.2 j e2;rw[b]at g;rw[g];have:¬c+1<=j:=O;simp[this]
  have r:m<=j:=O;have s:c+1<=j:=O;simp[e,r,s]
 have e:64*n+(c+1)=(64*n+c)+1:=O;rw[e];refine EP O (λq a g=>?_) (by rw[qW f n c p];exact u.2);obtain⟨j,rfl⟩:∃j,q=64*n+j:=⟨q-64*n,O⟩;have o:=h.2 j O;rw[b]at o;rw[qW f n j O];have t:m<=j:=O;simpa [t]using o
theorem ji.done(h:ji f n m 0):Mq f (64*(n+1))=Mq f (64*n+m):=by
 refine qB (oN h.1) λq c d=>?_;obtain⟨j,rfl⟩:∃j,q=64*n+j:=⟨q-64*n,O⟩;rw[qW f n j O];have a:=h.3 j;have b:m<=j:=O;simpa [b]using a.symm
theorem Fx{W p q}(h:p<=q):J (Mq W p)<=J (Mq W q):=by
 unfold Mq;obtain⟨d,rfl⟩:∃d,q=p+d:=⟨q-p,O⟩;rw[lI,eU,aQ];omega
theorem FO(n:N)(a:Uy)(len b:N)(w:Ub):
 CallsIn Fence.wide n prog 169 #[Sa #[X a len b]] w λe c=>e=Rt (.func (.func 194) #[] #[Sj (S ⟨Z w.1,0,U⟩)])/\c=D w (Sc #[X a len b] 113):=by
 refine iD func169 R trivial ?_ R;simp only[ntmps169,xY,Nat.reduceAdd,Nat.reduceSub];gi_wp2;go_ret;exact⟨R,R⟩
end
theorem wD{f:Wk}(a:∀B,B<256->f B<=68):∀n x,E1 f n x<=Wr 68 n
 |0,_=>aA
 |n+1,x=>by
  have b:=wD a n<|x/256;have c:=a (x%256) (dS _ vY);simp only[E1,Wr];omega
theorem Fp:∀B,B<256->f2 (f1 B)<=68:=by decide +kernel
theorem JQ(h:n<256):(n+256*m)/256=m:=O
theorem Dn(n g h i k o p j e a b c d f q l m r:N)(K:n<=8)(B:g<=8)(C:h<=8)(L:i<=8)(P:k<=8)(F:o<=8)(T:p<=8)(V:j<=8)(e3:q=n+256*e)(u:e=g+256*a)(v:a=h+256*b)(w:b=i+256*c)(x:c=k+256*d)(y:d=o+256*f)(z:f=p+256*j)(e4:l=q+q/256)(e5:m=l+l/65536)(t:r=m+m/4294967296):l<9223372036854775808/\m<9223372036854775808/\r<9223372036854775808/\r%128=n+(g+(h+(i+(k+(o+(p+j)))))):=by
 have d3:q/256=e:=by rw[e3];exact JQ O
 have c4:l=(n+g)+256*(e+a):=O;have d4:l/65536=a+b:=by
  rw[show 65536=256*256 from R,<-iZ,c4,JQ O,show e+a=(g+h)+256*(a+b) by omega,JQ O]
 have c5:m=(n+g+h+i)+256*(e+a+b+c):=O;have d5:m/4294967296=c+d+f+j:=by
  rw[show 4294967296=256*256*256*256 from R,<-iZ,<-iZ,<-iZ,c5,JQ O,show e+a+b+c=(g+h+i+k)+256*(a+b+c+d) by omega,JQ O,show a+b+c+d=(h+i+k+o)+256*(b+c+d+f) by omega,JQ O,show b+c+d+f=(i+k+o+p)+256*(c+d+f+j) by omega,JQ O]
 have s:r=(n+g+h+i+k+o+p+j)+256*(e+a+b+c+d+f+j):=O;have W:f<=2304:=O;have M:d<=590000:=O;have L_:c<=151100000:=O;have K_:b<=38700000000:=O;have J_:a<=9910000000000:=O;have I_:e<=2540000000000000:=O;refine⟨O,O,O,?_⟩;generalize e+a+b+c+d+f+j=O_ at s;omega
theorem CH(x:N)(e4:n=E1 Zc 8 x+E1 Zc 8 x/256)(e5:m=n+n/65536)(b:k=m+m/4294967296):n<9223372036854775808/\m<9223372036854775808/\k<9223372036854775808/\k%128=NZ 8 x:=by
 rw[uh];have a:∀y,Zc (y%256)<=8:=λy=>uo _<|dS _ vY;have h:=Dn (Zc<|x%256) (Zc<|x/256%256) (Zc<|x/256/256%256) (Zc<|x/256/256/256%256) (Zc<|x/256/256/256/256%256) (Zc<|x/256/256/256/256/256%256) (Zc<|x/256/256/256/256/256/256%256) (Zc<|x/256/256/256/256/256/256/256%256) (E1 Zc 7<|x/256) (E1 Zc 6<|x/256/256) (E1 Zc 5<|x/256/256/256) (E1 Zc 4<|x/256/256/256/256) (E1 Zc 3<|x/256/256/256/256/256) (E1 Zc 2<|x/256/256/256/256/256/256) (E1 Zc 8 x) n m k (a _) (a _) (a _) (a _) (a _) (a _) (a _) (a _) R R R R R R (by simp only[E1];omega) e4 e5 b;simp only[rA];exact h
theorem AZ(w:Ub)(q:n<18446744073709551616):
 Sk prog 124 #[Si .u64 (n:I)] w λo x=>o=Rt (H (NZ 8 n:N))/\x=w:=by
 have m:Wr 85 8=6148914691236517205:=vY;have m1:Wr 51 8=3689348814741910323:=vY;have m2:Wr 15 8=1085102592571150095:=vY;have s1:=wV 8 n;have s2:=wP 8<|E1 f1 8 n;have s3:=wR 8 (E1 f2 8<|E1 f1 8 n) (by rw[map_map kT];exact vy 8 n);rw[m]at s1;rw[m1]at s2;rw[m2,map_map kT,map_map λB h=>rq _<|kT _ h,tP Gt]at s3;have i:E1 f1 8 n<18446744073709551616:=oZ kT 8 n;have j:E1 f2 8 (E1 f1 8 n)<18446744073709551616:=oZ rq 8 _;have u:E1 Zc 8 n<18446744073709551616:=oZ (λB h=>iC (uo B h) vY) 8 n;let⟨r,s,K,t⟩:=CH n R R R;have k:E1 f2 8 (E1 f1 8 n)/16+E1 f2 8 (E1 f1 8 n)<18446744073709551616:=by
  have l:=wD (f:=λB=>f2<|f1 B) Fp 8 n;rw[map_map kT];rw[show Wr 68 8=4919131752989213764 by decide]at l;omega
 rw[map_map kT]at j s2 k;generalize E1 f1 8 n=e at*;generalize E1 (λB=>f2<|f1 B) 8 n=d at*;generalize E1 Zc 8 n=a at*;generalize NZ 8 n=v at*;have W:∀f:N,f<18446744073709551616->IntKind.u64.wrap (f:I)=(f:I):=λf l=>by rw[iV];exact mB O O
 have y:IntKind.u64.wrap (bits .and .u64 ((n:I)/2) 6148914691236517205+bits .and .u64 (n:I) 6148914691236517205)=(e:I):=by
  have q1:=jH (n/2) 6148914691236517205 O vY;have q2:=jH n 6148914691236517205 q vY;rw[show((n:I)/2)=((n/2:N):I) by omega];rw[show(6148914691236517205:I)=((6148914691236517205:N):I)from R,q1,q2,<-kB,s1,W _ i]
 have b2:IntKind.u64.wrap (bits .and .u64 ((e:I)/4) 3689348814741910323+bits .and .u64 (e:I) 3689348814741910323)=(d:I):=by
  have q1:=jH (e/4) 3689348814741910323 O vY;have q2:=jH e 3689348814741910323 i vY;rw[show((e:I)/4)=((e/4:N):I) by omega];rw[show(3689348814741910323:I)=((3689348814741910323:N):I)from R,q1,q2,<-kB,s2,W _ j]
 have z:bits .and .u64 ((d:I)/16+(d:I)) 1085102592571150095=(a:I):=by
  have p:=k;have q1:=jH (d/16+d) 1085102592571150095 p vY;rw[show((d:I)/16+(d:I))=((d/16+d:N):I) by omega];rw[show(1085102592571150095:I)=((1085102592571150095:N):I)from R,q1,s3]
 have L:IntKind.u64.wrap ((a:I)+(a:I)/256)=((a+a/256:N):I):=by
  rw[show((a:I)+(a:I)/256)=((a+a/256:N):I) by omega];exact W _ O
 generalize a+a/256=b at*;have C:IntKind.u64.wrap ((b:I)+(b:I)/65536)=((b+b/65536:N):I):=by
  rw[show((b:I)+(b:I)/65536)=((b+b/65536:N):I) by omega];exact W _ O
 generalize b+b/65536=c at*;have M:IntKind.u64.wrap ((c:I)+(c:I)/4294967296)=((c+c/4294967296:N):I):=by
  rw[show((c:I)+(c:I)/4294967296)=((c+c/4294967296:N):I) by omega];exact W _ O
 generalize c+c/4294967296=g at*;have P:bits .and S6 (g:I) 127=(v:I):=by rw[i64_and127];omega
 have F:wrap64 (g:I)=(g:I):=by simp[wrap64];omega
 go_in
 go_wp2;go_ret;exact⟨R,R⟩
def NO(W:Wk)(K:N):N:=(Rg<|64*K).countP λx=>Xh W x
theorem Bh(W:Wk)(K:N):NO W (K+1)=NO W K+NZ 8 (W K):=by
 unfold NO NZ;have e:64*(K+1)=64*K+8*8:=O;rw[e,lI,lN,List.countP_map];congr 1;apply kK;intro i a;have:i<64:=bE.1 a;have e1:(64*K+i)/64=K:=O;have e2:(64*K+i)%64=i:=O;simp only[Function.comp,Xh,e1,e2]
theorem TB(W:Wk)(K:N):NO W K<=64*K:=aJ (mW) sP
theorem P7(f:N)(m:f=61\/f=128)(g K C:N)(W:Wk)(w:Ub)(l:Q (XA W))(c:Q (Cp w g K C W))(hK:K<=1000):
 Sk prog f #[Sa #[Hl g K C]] w λe r=>e=Rt (H (NO W K:N))/\Sw (Z w.1) w r:=by
 have n:=c.lt;obtain rfl|rfl:=m
 go_in
 rotate_left
 go_in
 rotate_left
 all_goals (
  go_wp2
  go_loopw [3,9] (λu i wr=>∃k:N,k<=K/\i=H k/\u=H (NO W k:N)/\Q (Sw (Z w.1) w wr)) λ_ i _=>K-(intOf i).toNat
  case atStart=>exact⟨0,aN,R,R,Y<|Xb Rf _⟩
  case round=>
   obtain⟨k,v,rfl,rfl,a⟩:=hrel;by_cases p:k<K
   .have t:=oB a (c.cell p) n;have q:=l k;have b:=Y<|Bh W k;have x:=TB W k;have o:=TB W<|k+1;rw[b.o]at o;generalize NO W k=c0 at*;generalize W k=j at*;have h:=Y<|AZ wr q;generalize NZ 8 j=y at*;go_wp2_with (go_at_call 124;refine h.mono ?_;rintro e s⟨rfl,d⟩;rw[d];clear d s)
    exact⟨⟨k+1,O,gM,by rw[b.o];go_num,a⟩,SA⟩
   have e:k=K:=O;subst e;go_wp2;go_ret
   exact⟨R,a⟩)
abbrev Kl:=@P7 61<|bC R
section
attribute [local go_sem] Oper.semAt_some
theorem qV:NO f n=J (Mq f<|64*n):=by
 unfold NO Mq;rw[gK]
end
section
attribute [local go_sem] Oper.semAt_some
def N1(V a:N)(W:Wk):Prop:=∀x,x<64*a->Xh W x=So->x<V
theorem qi(h:N1 n m f)(a:∀t∈s,t<n):N1 n m (E2 f s):=λx b e=>by
 rw[YR]at e;obtain e|e:=dI _ _▸e;·exact a x<|fV e
 exact h x b e
theorem C4(h:N1 n m f):N1 n m (Js f s):=λx a e=>by
 rw[Kt]at e;exact h x a (bY _ _▸e).2
def pg(n m a z:N)(p:Sd)(V:Ub):Prop:=(p.i<=m/\N1 n a p.W)/\xn a z p V
theorem qj(n m d B z:N):OwnFrom B (pg n m d z):=λp r V row h k q=>by
 let⟨f,b,g⟩:=h;refine⟨f,b.of_block (k.5 z b.lt λe=>?_),g⟩;let⟨o,i,j⟩:=b.obj;let⟨_,l,a,c⟩:=q z e.symm;rw[i]at a;injection a with a;subst a;rw[j]at c;cases c
theorem tH{p:Sd}(h:pg n m k B p w)(a:Sw (Z w.1) w v):pg n m k B p v:=⟨h.1,h.2.1.of_block<|a.5 B h.2.1.lt,h.2.2⟩
theorem vh(m:N):∀(l a:List (N×Wc×Wc))(W:Wk),TZ m W (l++a)=TZ m W l++TZ m (l.foldl VI W) a
 |[],a,W=>by simp[TZ]
 |p::l,a,W=>by
  show N9 m W p++TZ m (VI W p) (l++a)=(N9 m W p++TZ m (VI W p) l)++TZ m (l.foldl VI<|VI W p) a;rw[vh m l,cK]
theorem BR{l a:List (N×Wc×Wc)}(h:l <+: a):TZ n f l <+: TZ n f a:=by
 obtain⟨t,rfl⟩:=h;rw[vh];exact⟨_,R⟩
theorem tU{Bx go:N}(O_:Vv)(u:Q (UI q k B Bx n (Z w.1) w))(hs:E w (A m 0)=S (Hl go g i))(hg:Q (Cp w go g i f))(f5:Q (XA f))(hK:g<=100)(gq:j<=64*g)(hM:Q (∀r,k<=r->r<B->¬O_ r))(fi:Q (¬O_ Bx))(X_:Q (∀r,Z w.1<=r->¬O_ r))(fc:Q (¬O_ 0))(fe:Q (¬O_ 1))(f0:Q (∀ej∈q.2,1<=ej.1/\ej.1<=13))(f4:1<=q.3.1/\q.3.1<=3)(fx:J q.2<=4000)(fz:J q.1<=4000)(fj:Q (∀e∈NS q,Pn j e))(fb:Q (N1 j g f)):
 lf Fence.wide 8 prog 167 #[Hn m,Hn Bx] (rx g) (pg j (J q.2) g) (Zf n O_) (λxs=>xs.map Sd.dat=TZ (J q.2) f (NS q)) (λxs=>xs.map Sd.dat <+: TZ (J q.2) f (NS q)) (J q.2+2) True False w:=by
 intro Y_ dl Jx W hW hl hJ dn ds _ hY h0;have HY:=Y hY;have HJ:=Y hJ;have c9:=Y dn;have a0:=Y<|ds trivial;have H0:=Y h0;have g2:=u.8;clear hY hJ ds h0 dn;have eg:=hW.4;refine callsIn_of_wp_marks func167 R trivial ?_ R;simp only[ntmps167,xY,Nat.reduceAdd,Nat.reduceSub];have s0:=oB hW hs<|aI w _ hs;have e8:m<Z W.1:=aI W _ s0;have hd:=λs=>G (bP W s (A m 0) e8) s0;gi_wp2;have fa:(λx9:Ub=>Q (Sw (Z W.1) W x9)/\E x9 (A (Z W.1) 0)=S (.func (.yield Y_) #[] #[])/\Z x9.1=Z W.1+1) (D W<|.cells #[.func (.yield Y_) #[] #[]] 269):=⟨Y<|Xb Rf _,SC,sP⟩;generalize D W _=wa at*;let⟨cv,ef,g9⟩:=fa;have gd:Z W.1<Z wa.1:=O;have cz:=Y<|(hg.of_block<|hW.5 go hg.lt).of_block (cv.5 go<|aX hg.lt eg);have cx:=Y<|Kk go g i f wa cz O;refine⟨trivial,(bM.2 cx).mono ?_⟩;rintro o P⟨b,L,rfl,gt,b0,cl⟩;have en:=Y cl;have ct:=Y<|Xg cv b0;have g5:=b0.4;have y1:=oB b0 ef gd;have fl:=cl.lt;clear b0 cl ef cx cz;have br:Q (Sw (Z P.1) P<|D P (Sc #[Hl b g L] 113)):=Y<|Xb Rf _;have fq:E (D P<|.cells #[Hl b g L] 113) (A (Z P.1) 0)=S (Hl b g L):=by simp[go_sem]
 have f6:Z (D P<|.cells #[Hl b g L] 113).1=Z P.1+1:=sP;have cj:=Y<|(Y<|u.below hW aA).below (Xg ct br) eg;let⟨pa,pc,ia,ic,x0,x1,⟨x2,x3,x4,x5⟩,ec,ea⟩:=cj.3;simp only[aV]at x1 x2 x3 x4 x5;have et:=Y ec;have ep:=Y ea;clear ec ea;gi_wp2;generalize D P _=V at*;have fr:Z P.1<Z V.1:=O;clear f6;refine⟨trivial,(tT Fence.wide 7 trivial R V).mono ?_⟩;rintro o t⟨rfl,b5⟩;have K_:Sw (Z V.1) V t:=b5▸Xb Rf _;have f7:Z t.1=Z V.1+1:=by rw[b5];simp
 have ad:∀e v,#[X pa (J q.1) pc,X ia (J q.2) ic,H q.3.1,H q.3.a,H q.3.3,H q.3.4][e]?=S v->E t (A (Z V.1) e)=S v:=λe v h=>by
  rw[b5,eC];exact h
 have ez:Q (UI q k B (Z V.1) n (Z t.1) t):=Y ⟨cj.1.of_block (K_.5 _<|oN u.6) K_.4,cj.2.of_block (K_.5 _<|oN u.7) K_.4,⟨pa,pc,ia,ic,ad 0 _ R,ad 1 _ R,⟨ad 2 _ R,ad 3 _ R,ad 4 _ R,ad 5 _ R⟩,et.keepS λe _ d=>K_.5 e<|oN u.5,ep.keepS λe _ d=>K_.5 e<|oN u.5⟩,O,u.5,u.6,u.7,O⟩;have eo:Q (PB W (Z t.1) Y_ (Z P.1) Bx b g L (J q.2) ia ic f dl [] t):=Y ⟨⟨[],R,H0 b t O O<|Y (Xg (Xg ct br) K_)⟩,oB K_ (G (XU br O) y1) O,oB K_ fq fr,(en.of_block<|br.5 _ fl).of_block (K_.5 _ O),oB K_ x1 (by have:=u.4;show Bx<_;omega),aA⟩;have gv:Z V.1<Z t.1:=O;clear b5 ad f7;have d0:∀e,e≠b->Z w.1<=e->¬(O_ e\/e=b):=λe a d y=>y.elim (λh=>X_ e d h) a;have ge:Z w.1<=b:=O;gi_wp2
 refine nX (F:=Fence.wide) (n:=8) R vY (gf:=159) (lb:=#[Hn (Z V.1)]) R trivial (enters_of func159 vZ R) (uy n (Z V.1) k B (λe=>O_ e\/e=b) (Pn j) q t ez (Y ?m1) (Y ?m2) (Y ?m3) (Y ?m4) (Y ?m5) f0 f4 fx fz fj) (λ_=>qn _ _ _) (λh r=>h.trans r) (λW Y_ s x a d y=>Zf.putObj W Y_ s x O d y) Rf (λ_ _=>R)
  (λ_ C c=>PB W (Z t.1) Y_ (Z P.1) Bx b g L (J q.2) ia ic f dl C c/\N1 j g ((C.map Pl.dat).foldl VI f)) (λc_ C j=>c_=.ret/\∃T:List Sd,T.map Sd.dat=TZ (J q.2) f (C.map Pl.dat)/\Jx T j) (λ_ gf K c row h r e=>⟨PB.own HJ O O (oN u.4) O gf K c row h.1 r e,h.2⟩) ?ownX (λh=>h.elim) (λh=>h.elim) (λ_ j _ _ hV=>⟨XO (PB.own HJ O O (oN u.4) O) eo hV,fb⟩)
  (λ_ p a' c=>∃V_:N,a'=⟨#[.func (.yield Y_) #[] #[],Hn m,Hn Bx,Hn (Z W.1),Hn (Z P.1),H (p.i:I),Hn V_,Sa #[Hl go g i],Sa #[Hl b g L],Sa #[X pa (J q.1) pc,X ia (J q.2) ic,H q.3.1,H q.3.a,H q.3.3,H q.3.4],.func (.func 159) #[] #[Hn (Z V.1)],H (p.i:I),Sa #[X p.2 (J p.4) p.3,X p.5 (J p.7) p.6],Su,Su,Su,Su,Su,Su,Su,Su,Su,Su,Su,Su,Su,Su,Su,Su,Su,Su,Su,Su,Su,Su,Su,Su],[]⟩/\PM (Z t.1) V_ p c) ?ownA ?assign ?body ?done ?stop
 case m1=>intro e a d;exact λy=>y.elim (λh=>hM e a d h) λh=>by have:=u.5;omega
 case m2=>exact d0 _ O O
 case m3=>intro e a;exact d0 _ O O
 case m4=>exact λy=>y.elim (λh=>fc h) λh=>by have:=u.6;omega
 case m5=>exact λy=>y.elim (λh=>fe h) λh=>by have:=u.7;omega
 case ownX=>
  rintro c_ C K j row⟨rfl,T,s1,s2⟩ r e;exact⟨R,T,s1,c9 T K j row s2 r λei o=>⟨oN<|(e ei o).1,(e ei o).2⟩⟩
 case ownA=>
  rintro _ p a' _ K c row⟨V_,o,hp⟩ e7 e;exact⟨V_,o,PM.own (n:=Z t.1) () K c row hp e7 e⟩
 case assign=>
  intro l' _ C p c gh _ e9 hP du;let⟨I_,a9⟩:=e9;have cg:=Y a9;clear a9;have R_:=Y I_;have ao:=Y hP;have er:=Y du;clear I_ hP du;unfold pf;gi_wp2;have ba:Sw (Z c.1) c (D c<|.cells #[X p.2 (J p.4) p.3,X p.5 (J p.7) p.6] 198):=Xb Rf _;refine er _ _ ⟨ba.4,λr s a _=>G (ba.5 r (aS.1 a).1) a⟩ (Zf.of_below ba<|oN R_.6) ⟨XO (PB.own HJ O O (oN u.4) O) R_ ba,cg⟩ (tA ao ba) ⟨Z c.1,R,R_.6,?_,?_⟩;·simp[go_sem]
  simp[go_sem]
 case body=>
  rintro l' _ C p a' c _ _ _⟨I_,a9⟩ hP ⟨V_,rfl,b3⟩ g0;have cg:=Y a9;clear a9;have R_:=Y I_;have ao:=Y hP;have zl:=I_.3;have zy:=I_.y;have zx:=I_.5;have p0:=b3.2;have p1:=b3.3;have gr:=b3.1;have gs:V_<Z c.1:=aI c _ p0;have S_:=Y ao.1;have ci:Q ((X9 p.7).map Int.ofNat=p.7):=Y (Kv λv hv=>(S_.2.1 v hv).1);have df:Q ((X9 p.4).map Int.ofNat=p.4):=Y (Kv λv hv=>(S_.1 v hv).1);have dc:Q (∀M_∈X9 p.7,M_<j):=Y (λM_ ht=>by
   obtain⟨al,hz,rfl⟩:=aY.1 ht;have:=S_.2.1 al hz;omega)
  have es:Q (∀M_∈X9 p.4,M_<j):=Y (λM_ ht=>by
   obtain⟨al,hz,rfl⟩:=aY.1 ht;have:=S_.1 al hz;omega)
  have ch:Q (∀M_∈X9 p.7,M_<64*g):=Y (λM_ ht=>by
   obtain⟨al,hz,rfl⟩:=aY.1 ht;have:=S_.2.1 al hz;omega)
  have dd:Q (∀M_∈X9 p.4,M_<64*g):=Y (λM_ ht=>by
   obtain⟨al,hz,rfl⟩:=aY.1 ht;have:=S_.1 al hz;omega)
  have cm:J p.7<=4000:=S_.2.2.2;have eb:J p.4<=4000:=S_.2.2.1;let⟨F,ap⟩:∃el,el=(C.map Pl.dat).foldl VI f:=⟨_,R⟩;have da:Q (N1 j g F):=Y (ap▸cg);have db:Q (N1 j g<|((C++[p]).map Pl.dat).foldl VI f):=Y (by
   rw[bG,dT,<-ap];exact qi (C4<|qi da dc) es)
  have dj:Q (XA F):=Y (ap▸Dk f5);have bv:Q (Cp c b g L F):=Y (ap▸R_.4);have a2:=Y ap;clear I_ hP b3 ap;have cw:=Y (ZG b g L (J p.7) p.6 F p.5 (X9 p.7) (Z t.1) (Z c.1) c (Y<|by rw[ci.o];exact ao.2.2) (Y<|by simp[X9]) cm ch O dj bv aA O);gi_wp2;refine⟨trivial,(CallsIn.inRound l'<|bM.2 cw).mono ?_⟩;rintro o T_⟨rfl,k1,ed⟩;have q1:∀(l x:N)(v:Uj),l≠b->E c (A l x)=S v->E T_ (A l x)=S v:=λl x v a d=>G (Xc<|k1.5 l (aI c _ d) λo=>a<|by injection o) d
  have b8:=q1 _ _ _ O zl;have cb:=q1 _ _ _ O zy;have ca:=q1 _ _ _ (oN u.4) zx;have b6:=q1 _ _ _ O p0;have b7:=q1 _ _ _ O p1;have g7:=k1.4;have Z_:=Y k1;have a3:=Y ed;have a5:Q (XA<|E2 F (X9 p.7)):=Y<|Zs _ dj;have c6:=Y<|YZ ao.2.2 k1 O;have c7:=Y<|YZ ao.2.1 k1 O;clear k1 ed q1 cw zl zy zx p0 p1;let⟨T,b4,bx⟩:=R_.1;have bt:=Y b4;have c8:=Y<|a0.o b T c T_ O bx Z_;clear b4 bx;have g1:J T<=J C:=by
   have a:=fI List.length bt;rw[bK]at a;have d:=qI (J q.2) (C.map Pl.dat) f;rw[bK]at d;omega
  have gg:Q (p.dat=(p.i,p.4,p.7)):=Y R;by_cases b1:p.i<=J q.2
  .have dk:=Y<|HY.o b T ⟨p.i,L,E2 F<|X9 p.7⟩ T_ O c8 ⟨⟨b1,qi da dc⟩,a3,a5⟩ O;let⟨fn,tmps,gi,bo,hy,hR⟩:=KY (l':=l') (m':=5) dk;have ee:(Instr.yield Y_ #[H (p.i:I),Sa #[Hl b g L]]).run prog T_=_:=hy;have fs:(p.i:I)<=(J q.2:I):=O;clear hy dk;gi_wp2;refine hR.mono ?_;rintro o P_ (⟨rfl,a7,M,bb⟩|⟨rfl,a7,M,bb⟩);rotate_left
   .have ce:=Y a7;have aa:=Y M;have az:=Y bb;clear a7 M bb hR ee;gi_wp2;refine⟨((Jc Z_ bv.obj).from _).trans ⟨az.1,λr s a d y=>az.2 r s O d y⟩,(Zg Z_ (aZ R) O).trans ⟨aa.1,λr a d=>aa.2 r a λh=>d<|bC h,λr s a d y=>aa.3 r s (λh=>a<|bC h) d y⟩,R,_,?_,ce⟩;rw[bG,bG,bt.o];show _=TZ (J q.2) f (C.map Pl.dat++[p.dat]);rw[Ky,<-a2.o];unfold N9;rw[aU<|show p.dat.1<=J q.2 from b1];rfl
   have ce:=Y a7;have aa:=Y M;have az:=Y bb;have g8:=M.1;have bh:=M.cell b8 (X_ _<|by show Z w.1<=Z P.1;omega);have bn:=M.cell cb (X_ _<|by show Z w.1<=Z W.1;omega);have bl:=M.cell ca fi;have be:=M.cell b6 (X_ _<|by show Z w.1<=V_;omega);have bf:=M.cell b7 (X_ _<|by show Z w.1<=V_;omega);have di:Q (Cp P_ b g L<|E2 F (X9 p.7)):=Y (a3.of_block (by
    let⟨s,a,d⟩:=a3.obj;rw[a];exact M.3 b s (X_ _ ge) a d))
   have eq:Q (Xf P_ (Z t.1) (Z P_.1) p.5 p.7):=Y (λcn hi=>by
    let⟨a6,s,o,hb,hc⟩:=c6 cn hi;exact⟨a6,s,o,⟨hb.1,O⟩,M.cell hc<|X_ _ (by show Z w.1<=a6;omega)⟩)
   have cc:Q (Xf P_ (Z t.1) (Z P_.1) p.2 p.4):=Y (λcn hi=>by
    let⟨a6,s,o,hb,hc⟩:=c7 cn hi;exact⟨a6,s,o,⟨hb.1,O⟩,M.cell hc<|X_ _ (by show Z w.1<=a6;omega)⟩)
   clear a7 M bb hR ee b8 cb ca b6 b7;have aq:=Y (JL p.6 p.5 (Z t.1) P_ (Y<|by rw[ci.o];exact eq) (Y<|by simp[X9]) cm ch O a5 di aA O);gi_wp2;refine⟨trivial,(CallsIn.inRound l'<|bM.2 aq).mono ?_⟩;rintro o z⟨rfl,L_,bc⟩;have q3:∀(l x:N)(v:Uj),l≠b->E P_ (A l x)=S v->E z (A l x)=S v:=λl x v a d=>G (Xc<|L_.5 l (aI P_ _ d) λo=>a<|by injection o) d;have bi:=q3 _ _ _ O bh;have bq:=q3 _ _ _ O bn;have bm:=q3 _ _ _ (oN u.4) bl;have co:=q3 _ _ _ O be;have cp:=q3 _ _ _ O bf;have ga:=L_.4;have ab:=Y L_;have a4:=Y bc;have cd:=Y<|YZ cc L_ O;clear L_ bc q3 aq bh bn bl be bf;have ar:=Y (ZG b g L (J p.4) p.3 (Js (E2 F<|X9 p.7) (X9 p.7)) p.2 (X9 p.4) (Z t.1) (Z z.1) z (Y<|by rw[df.o];exact cd) (Y<|by simp[X9]) eb dd O (Y<|JX _ a5) a4 aA O);gi_wp2;refine⟨trivial,(CallsIn.inRound l'<|bM.2 ar).mono ?_⟩;rintro o V4⟨rfl,Q_,bd⟩;have q4:∀(l x:N)(v:Uj),l≠b->E z (A l x)=S v->E V4 (A l x)=S v:=λl x v a d=>G (Xc<|Q_.5 l (aI z _ d) λo=>a<|by injection o) d;have cq:=q4 _ _ _ O bi;have cs:=q4 _ _ _ O bq;have cr:=q4 _ _ _ (oN u.4) bm;have gb:=Q_.4;have ac:=Y Q_;have ck:=Y bd;clear Q_ bd q4 ar bi bq bm co cp;gi_wp2;have af:∀{K J_:Ub},K.grownBy J_ (S b)->n<=Z K.1->Zf n (λe=>O_ e\/e=b) K J_:=λh a=>Zg h (aZ R) a;have aj:∀{K J_:Ub},K.grownBy J_ (S b)->(∃s:Obj,K.1[b]?=S s/\s.isCells=So)->KeepsFrom (Z t.1) K J_:=λh a=>(Jc h a).from _;have g4:E2 (Js (E2 F<|X9 p.7) (X9 p.7)) (X9 p.4)=VI F p.dat:=R;have g3:E2 F (X9 p.7)=Uo F p.dat:=R;have cf:=a0 b _ z V4 O (a0 b _ P_ z O ce ab) ac;refine⟨(((aj Z_ bv.obj).trans ⟨az.1,λr s a d y=>az.2 r s O d y⟩).trans (aj ab di.obj)).trans (aj ac a4.obj),(((af Z_ O).trans ⟨aa.1,λr a d=>aa.2 r a λh=>d<|bC h,λr s a d y=>aa.3 r s (λh=>a<|bC h) d y⟩).trans (af ab O)).trans (af ac O),⟨⟨⟨_,?_,cf⟩,cs,cq,?_,cr,O⟩,db⟩⟩
   .rw[bG,bG,bt.o];show _=TZ (J q.2) f (C.map Pl.dat++[p.dat]);rw[Ky,<-a2.o];unfold N9;rw[aU<|show p.dat.1<=J q.2 from b1];rfl
   rw[bG,dT,<-a2.o];exact ck
  have gz:(J q.2:I)<(p.i:I):=O;have fs:decide ((p.i:I)<=(J q.2:I))=Sn:=by simp;omega
  have bh:=b8;have bn:=cb;have bl:=ca;have be:=b6;have bf:=b7;have cc:=c7;clear b8 cb ca b6 b7;have aq:=Y (JL p.6 p.5 (Z t.1) T_ (Y<|by rw[ci.o];exact c6) (Y<|by simp[X9]) cm ch O a5 a3 aA O);gi_wp2
  repeat (refine⟨λgp hf=>(by cases hf),?_⟩;gi_wp2)
  refine⟨trivial,(CallsIn.inRound l'<|bM.2 aq).mono ?_⟩;rintro o z⟨rfl,L_,bc⟩;have q3:∀(l x:N)(v:Uj),l≠b->E T_ (A l x)=S v->E z (A l x)=S v:=λl x v a d=>G (Xc<|L_.5 l (aI T_ _ d) λo=>a<|by injection o) d;have bi:=q3 _ _ _ O bh;have bq:=q3 _ _ _ O bn;have bm:=q3 _ _ _ (oN u.4) bl;have co:=q3 _ _ _ O be;have cp:=q3 _ _ _ O bf;have ga:=L_.4;have ab:=Y L_;have a4:=Y bc;have cd:=Y<|YZ cc L_ O;clear L_ bc q3 aq bh bn bl be bf;have ar:=Y (ZG b g L (J p.4) p.3 (Js (E2 F<|X9 p.7) (X9 p.7)) p.2 (X9 p.4) (Z t.1) (Z z.1) z (Y<|by rw[df.o];exact cd) (Y<|by simp[X9]) eb dd O (Y<|JX _ a5) a4 aA O);gi_wp2;refine⟨trivial,(CallsIn.inRound l'<|bM.2 ar).mono ?_⟩;rintro o V4⟨rfl,Q_,bd⟩;have q4:∀(l x:N)(v:Uj),l≠b->E z (A l x)=S v->E V4 (A l x)=S v:=λl x v a d=>G (Xc<|Q_.5 l (aI z _ d) λo=>a<|by injection o) d;have cq:=q4 _ _ _ O bi;have cs:=q4 _ _ _ O bq;have cr:=q4 _ _ _ (oN u.4) bm;have gb:=Q_.4;have ac:=Y Q_;have ck:=Y bd;clear Q_ bd q4 ar bi bq bm co cp;gi_wp2;have af:∀{K J_:Ub},K.grownBy J_ (S b)->n<=Z K.1->Zf n (λe=>O_ e\/e=b) K J_:=λh a=>Zg h (aZ R) a;have aj:∀{K J_:Ub},K.grownBy J_ (S b)->(∃s:Obj,K.1[b]?=S s/\s.isCells=So)->KeepsFrom (Z t.1) K J_:=λh a=>(Jc h a).from _;have cf:=a0 b _ z V4 O (a0 b _ T_ z O c8 ab) ac;refine⟨((aj Z_ bv.obj).trans (aj ab a3.obj)).trans (aj ac a4.obj),((af Z_ O).trans (af ab O)).trans (af ac O),⟨⟨⟨_,?_,cf⟩,cs,cq,?_,cr,O⟩,db⟩⟩
  .rw[bG,bt.o];show _=TZ (J q.2) f (C.map Pl.dat++[p.dat]);rw[Ky,<-a2.o];unfold N9;rw[aM (show ¬p.dat.1<=J q.2 from b1),fF]
  rw[bG,dT,<-a2.o];exact ck
 case done=>
  rintro ek _ xs c hD _ dw⟨I_,_⟩ a8;have R_:=Y I_;have a1:=Y a8;have eu:=Y dw;clear I_ a8 dw;gi_wp2;let⟨T,b4,bx⟩:=R_.1;refine YK a1 ⟨St #[],gV R _ _ _,⟨_,R⟩,.inl ⟨b,T,O,by rw[b4,eu.o],(HJ b).putObj _ bx O a1 R⟩⟩
 rintro ek c_ C c hD dz⟨rfl,T,s1,s2⟩ a8;have ev:=Y s1;have ey:=Y s2;have a1:=Y a8;have e6:=Y dz;clear s1 s2 a8 dz;gi_wp2;exact YK a1 ⟨St #[],gV R _ _ _,⟨_,R⟩,.inr ⟨T,by rw[ev.o];exact BR e6,c9.putObj _ ey O a1 R⟩⟩
end
def Jq(a:Wi):Prop:=∀b,b<J a->Re (X8 a) b
open Classical in
noncomputable def Ft(v:I)(a:Wi):I:=if XJ ⟨v,a⟩=Sn then 9 else if ¬Jq a then 10 else if ∃x,N4 a x then 11 else 0
theorem vC:∀(n:N)(F:Wa),(∀b,b<n->b∈F)->n<=J F
 |0,_,_=>aN
 |n+1,F,h=>by
  have c:=vC n (F.erase n) λb d=>(iF O).2 (h b O);have a:=h n O;rw[fP a]at c;have:=eJ a;omega
theorem uQ(g:UF x){F:Wa}(f:F.Nodup)(d:∀a,a∈F↔Re (X8 x) a):J F<=J x/\(J F=J x↔Jq x):=by
 have k:=YS f λa b=>g.re a<|(d a).1 b;refine⟨k,λh c e=>?_,λh=>?_⟩
 .apply dQ
  intro j;have l:=fL.2 ⟨λi=>j<|(d c).1 i,f⟩;have:=YS (n:=J x) l (λa b=>by
   obtain rfl|b:=cH.1 b;·exact e
   exact g.re a<|(d a).1 b)
  rw[bA]at this;omega
 have:=vC (J x) F λc e=>(d c).2 (h c e);omega
open Classical in
theorem Uh(h:XJ ⟨t,x⟩=Sn):Ft t x=9:=by unfold Ft;rw[aU h]
open Classical in
theorem t9(h:XJ ⟨t,x⟩=So)(k:¬Jq x):Ft t x=10:=by unfold Ft;rw[aM (by rw[h];decide),aU k]
open Classical in
theorem qg(h:XJ ⟨t,x⟩=So)(k:Jq x)(m:∃a,N4 x a):Ft t x=11:=by unfold Ft;rw[aM (by rw[h];decide),aM λq=>q k,aU m]
open Classical in
theorem uP(h:XJ ⟨t,x⟩=So)(k:Jq x)(m:¬∃a,N4 x a):Ft t x=0:=by unfold Ft;rw[aM (by rw[h];decide),aM λq=>q k,aM m]
abbrev As:=@Ps 168<|aZ (aZ R)
abbrev AY:=@Pu 170<|aZ (aZ R)
abbrev AF:=@P7 128<|aZ R
abbrev A7:=@P5 137<|aZ R
section
attribute [local go_sem] Oper.semAt_some
theorem DH{p q}(h:p<=q)(a:n∈Mq f p):n∈Mq f q:=by
 have:=om.1 a;exact om.2 ⟨O,this.2⟩
theorem DS(h:Vv)(L:E w (A n 0)=S (Hl m k B))(r:Q (Cp w m k B f))(M:Q (XA f))(C:Q (Jn w))(hK:k<=100)(z:Q (¬h m))(aa:Q (¬h 4)):
 pp Fence.wide 7 prog 194 #[Hn n] (λx:N=>#[H x]) (λx _=>x∈Mq f (64*k)) (Zf (Z w.1) h) (λxs=>xs=Mq f (64*k)) (J (Mq f<|64*k)) w:=by
 intro a2 s t l hl v_ F g;have K:n<Z w.1:=aI w _ L;have ar:=oB l L K;have T:=Y<|r.of_block (l.5 m r.lt);have ab:(4: N)<Z w.1:=aI w _<|C 0 vY;have W:=Y<|C.of_block (l.5 _ ab);refine iD func194 R trivial ?_ R;simp only[ntmps194,xY,Nat.reduceAdd,Nat.reduceSub];gi_wp2
 gi_loopw [8] (λq wr=>∃a:N,a<=k/\q=H a/\Q (s (Mq f<|64*a) wr)/\Zf (Z w.1) h t wr) λq _=>k-(intOf q).toNat
 case atStart=>exact⟨0,aN,R,Y (by rw[Nat.mul_zero];exact Y g),Zf.refl _⟩
 obtain⟨a,hk,rfl,d,o⟩:=hrel;by_cases ad:a<k
 .have V:=o.cell (T.cell ad) z;have c:=Y<|ji.start M a;have aj:=M a;generalize al:f a=yk at V c aj;generalize wr=wo at*;have aq:S6.wrap ((a:I)*64)=(a:I)*64:=by rw[dF];omega
  have e:=Y o;gi_wp2
  gi_loopw [4] (λy wr=>∃b p:N,y=Si .u64 b/\Q (ji f a p b)/\Q (s (Mq f<|64*a+p) wr)/\Q (Zf (Z w.1) h t wr)) λy _=>(intOf y).toNat
  case atStart=>exact⟨yk,0,R,c,d,e⟩
  obtain⟨b,p,rfl,c,d,e⟩:=hrel;have v:=c.2;by_cases g:b=0
  .subst g;gi_wp2;exact⟨⟨a+1,O,gM,Y (c.done▸d),e⟩,SA⟩
  let⟨P,j,n3,n4⟩:=c.next g;have V_:=Y j;have a1:((b:I)==0)=Sn:=by simp;omega
  have az:IntKind.u64.wrap ((b:I)-1)=((b-1:N):I):=by rw[iV];omega
  have a0:=bits_and_u64_nat b (b-1) v O;have r_:=Y<|Fj v g wr (Y<|W.of_block (e.2 _ O aa));have I_:J (Mq f<|64*a+p)<J (Mq f<|64*k):=by
   have u:=fI List.length j;have h2:=Fx (W:=f) (p:=64*a+(Lib.ctz 64 b+1)) (q:=64*k) O;rw[aQ]at u;simp at u;omega
  have K_:64*a+Lib.ctz 64 b∈Mq f (64*k):=DH (q:=64*k) (p:=64*a+(Lib.ctz 64 b+1)) O (by rw[j];simp);let⟨fn,tmps,ao,bo,N_,A_⟩:=(Y F) _ (64*a+Lib.ctz 64 b) wr d K_ I_;generalize Lib.ctz 64 b=i at*;generalize b&&&(b-1)=yn at*;have ap:S6.wrap ((a:I)*64+(i:I))=(a:I)*64+(i:I):=by rw[dF];omega
  have F_:(((64*a+i:N)):I)=(a:I)*64+(i:I):=O;rw[F_]at N_;gi_wp2;refine⟨trivial,(bM.2 r_).mono ?_⟩;rintro X_ w1⟨rfl,af⟩;subst af;gi_wp2;refine A_.mono ?_;rintro X_ W3⟨rfl,z_,H_,_⟩;gi_wp2;exact⟨⟨yn,i+1,R,Y P,Y (V_.o▸(Y z_)),Y<|e.trans H_⟩,SA⟩
 have ac:a=k:=O;gi_wp2
 go_end0
 exact⟨⟨_,R⟩,_,R,ac▸d⟩
end
theorem Wbw_{b c:Wn}(W:Ub)(r:m=Z W.1)(s:n<=Z W.1)(f:Q (Sx W n 5 1 a (J b) (Wab_ b)))(q:Q (a≠X U 0 0))(p:Q (J b+J (Wbg_ c l)<=1000000000000))(o:∀v∈l,-9223372036854775807<=v/\v<=9223372036854775807):
 Sk prog 11 #[a,Sg (K8 c),X (S ⟨m,0,U⟩) (J l) (J l)] (D W (Sc (l.map<|Value.int S6).toArray 2)) λe d=>
  ∃v,e=Rt v/\Gr W d a v/\v≠X U 0 0/\Sx d n 5 1 v (J (b++Wbg_ c l)) (Wab_<|b++Wbg_ c l):=by
 subst r;refine(Wbi_ SB (Y<|f.alloc _) q p (Y<|Wbk_ W l) sP (Y λg k=>bC (by have:=(f.lt g k).2;omega)) (Y R) (Y o)).mono ?_;rintro e d⟨v,rfl,h,i,j⟩;exact⟨v,R,((Gr.refl _ _).alloc _).trans h,i,j⟩
theorem Wbx_{a:Type}(f:a->Wn){l:List a}(h:n<J l):l.flatMap f=(l.take n).flatMap f++(f l[n]++(l.drop<|n+1).flatMap f):=by
 rw[<-jF,<-eZ,<-gZ h,hH]
theorem Wby_{a:Type}(f:a->Wn)(b:∀x,1<=J (f x))(l:List a):J l<=J (l.flatMap f):=by
 induction l with
 |nil=>exact aN
 |cons x r c=>have:=b x;simp only[jF,aQ,bA];omega
theorem Wbz_{w:Wn}:1<=J (Wbg_ w l):=by simp only[Wbg_,aQ,List.length_singleton];omega
theorem Wb0_{a:Type}(f:a->Wn){l:List a}(h:n<J l):(l.take<|n+1).flatMap f=(l.take n).flatMap f++f l[n]:=by
 rw[X7 h,eZ];simp
def Wco_(a:Vr)(t:Yj):Wn:=a.flatMap Wa1_++Wbj_ t
theorem Wcp_{a:Vr}{t:Yj}(h:n<J a):J ((a.take n).flatMap Wa1_)+J (Wa1_ a[n])<=J (Wco_ a t):=by
 have:=fI List.length<|Wbx_ Wa1_ h;simp only[Wco_,aQ]at this |-;omega
def Wcq_(x:ag):Wn:=Wbg_ [98,108,111,99,107] []++Wco_ x.is x.te
def Wcr_(V:I)(a:List ag):Wn:=Wbg_ [109,97,99,104] [V]++a.flatMap Wcq_
structure Wcs_(x:ag):Prop where
 is:∀i∈x.is,∀v∈[i.dst,i.a,i.b,i.imm],Wbn_ v
 te:∀v∈[x.te.a,x.te.to,x.te.els],Wbn_ v
 ops:∀i∈x.is,1<=i.op/\i.op<=13
 kind:x.te.kind=1\/x.te.kind=2\/x.te.kind=3
theorem Wct_(x:ag)(h:Wcs_ x):J (Wcq_ x)<=100*(J x.is+1):=by
 have b:=Wbv_ h.is;have c:=Wbu_ h.te;have a:J (Wbg_ [98,108,111,99,107] [])=6:=R;unfold Wcq_ Wco_;rw[aQ,aQ,a];omega
theorem Wcu_{a:List ag}(h:∀x∈a,Wcs_ x):J (a.flatMap Wcq_)<=100*(Wae_ a+J a):=by
 induction a with
 |nil=>simp
 |cons p r c=>
  have d:=Wct_ p<|h p (cI ..);have e:=c λq hq=>h q<|cN _ hq;have b:Wae_ (p::r)=J p.is+Wae_ r:=by simp[Wae_]
  rw[b,jF,aQ,bA];omega
theorem Wcv_{a:List ag}(d:Wbn_ t)(h:∀x∈a,Wcs_ x):J (Wcr_ t a)<=100*(Wae_ a+J a+1):=by
 have e:=Wcu_ h;have c:=Wbr_ [109,97,99,104] [t] (λv b=>by simp at b;exact b▸d);simp only[bA,bO]at c;unfold Wcr_;rw[aQ];omega
theorem Wcw_(h:Tp r t T z=So)(a:0<=T)(b:z<=1000000):0<=t/\t<=1000000:=by
 cases r<;>simp[Tp]at h<;>omega
theorem Wcx_(h:-1000000000<=t/\t<=1000000000):Wbn_ t:=by unfold Wbn_;omega
theorem Wcy_{g:List ag}(h:Wao_ t g=So):Wbn_ t/\(∀x∈g,Wcs_ x):=by
 unfold Wao_ Wan_ at h;simp only[bY,bD,dV]at h;obtain⟨⟨⟨⟨⟨F,B⟩,C⟩,K⟩,L⟩,i⟩:=h;refine⟨Wcx_ O,λx k=>?_⟩;have a:=i x k;unfold Wam_ at a;simp only[bY,dV]at a;obtain⟨e,f⟩:=a;simp only[Zu,bY,bD]at f;obtain⟨⟨⟨⟨y,z⟩,r⟩,s⟩,u⟩:=f;have l:=Wcw_ r O O;have m:=Wcw_ s O O;have n:=Wcw_ u O O;refine⟨λj d v c=>?_,λv c=>?_,λj d=>?_,O⟩
 .have a:=e j d
  simp only[Yw,bY,bD]at a;obtain⟨⟨⟨⟨⟨q1,q2⟩,o⟩,p⟩,q⟩,b⟩:=a;have l:=Wcw_ o O O;have m:=Wcw_ p O O;have n:=Wcw_ q O O;have w:-1000000000<=j.imm/\j.imm<=1000000000:=by
   unfold Wu at b;split at b;·simpa using b
   split at b;·simp at b;omega
   simp at b;omega
  simp only[cH,eA,lL]at c;exact Wcx_ (by obtain rfl|rfl|rfl|rfl:=c<;>omega)
 .simp only[cH,eA,lL]at c;exact Wcx_ (by obtain rfl|rfl|rfl:=c<;>omega)
 have a:=e j d;simp only[Yw,bY,bD]at a;exact a.1.1.1.1
def Wcz_(V:I)(a:List ag):Wn:=if Wao_ V a=So then Wcr_ V a else []
section
attribute [local go_sem ↓] Go.wp_at_zero Go.wp_at_succ
theorem Wci_{a:List ag}(L B:N)(ha:Q (d7 w L B p a))(j:Q (n=J a))(C:n<=16777216)(K:Waf_ a<=16777216)(m:B<=Z w.1):
 Sk prog 50 #[Sa #[Si S6 t,X p n c]] w λe q=>e=Rt (Si S6 (Waf_ a))/\Sw (Z w.1) w q:=by
 go_in
 go_wp2;have f:=Xb (Below.refl (Z w.1) w) (Sc #[Si S6 t,X p n c] 30);have y:E (D w (Sc #[Si S6 t,X p n c] 30)) ⟨Z w.1,1,U⟩=S (X p n c):=sP;generalize D w (Sc #[Si S6 t,X p n c] 30)=M at*
 go_loop [3,4] (λu i=>∃k:N,k<=n/\i=Si S6 k/\u=Si S6 (Waf_ (a.take k):N)) λ_ i=>n-(intOf i).toNat
 case atStart=>exact⟨0,aN,R,R⟩
 obtain⟨k,z,rfl,rfl⟩:=hrel;by_cases P:k<n
 .have h:k<J a:=by have:=j.o;omega
  obtain⟨s,o,rfl,⟨_,x⟩,g⟩:=ha.o k h;obtain⟨T,F,e1,_,_⟩:=g.keep (f.mono m) O;have b:Q (Waf_ (a.take<|k+1)=Waf_ (a.take k)+(1+J a[k].is)):=by show _=_;rw[X7 h,Wah_]
  have l:=Waj_ a<|k+1;have v:Waf_ (a.take k)+(1+J a[k].is)<=16777216:=by have:=b.o;omega
  clear g l;generalize a[k]=V at*;generalize d:Waf_ (a.take k)=W at*;have r:=Y d;clear d;go_wp2
  go_round
  case rel=>exact⟨k+1,O,gM,by rw[b.o];go_num⟩
  simp[intOf];omega
 go_wp2;go_ret;have e:=aW (l:=a) (i:=k) (by have:=j.o;omega);rw[e];exact⟨R,f⟩
theorem Wcj_{a:List ag}(ha:Q (d7 w m k p a))(l:Q (n=J a))(z:Q (J a+Wae_ a<=16777216))(C:k<=Z w.1):
 Sk prog 22 #[Sa #[Si S6 t,X p n c]] w λf w'=>f=Rt (Sb (Wao_ t a))/\Sw (Z w.1) w w':=by
 have R_:n<=16777216:=by have:=l.o;have:=z.o;omega
 have M_:Q (Waf_ a<=16777216):=by show _<=_;rw[Wak_];exact z.o
 by_cases O_:1<=t/\t<=64/\1<=n/\n<=3000
 .obtain⟨W_,d1,d2,d3⟩:=O_;by_cases a5:20000<Waf_ a
  .have g:Q (Wao_ t a=Sn):=War_ O
   go_in
   go_wp2_with fail
   refine(Wci_ m k ?q1 l R_ M_.o ?q2).mono ?_
   case q1=>exact ha.keep (Xb Rf _ |>.mono C)
   case q2=>simp;omega
   rintro f r⟨rfl,s⟩;go_wp2;go_ret;exact⟨Xl g.symm,Xg (Xb Rf _) s⟩
  have g:Q (Wao_ t a=a.all (Wam_ t n)):=by
   show _=_;have f:=l.o;unfold Wao_;rw[Wap_ W_ d1 O O O,<-f];rfl
  have ac:=Y<|Was_ z.o
  go_in
  go_wp2_with fail
  refine(Wci_ m k ?q1 l R_ M_.o ?q2).mono ?_
  case q1=>exact ha.keep (Xb Rf _ |>.mono C)
  case q2=>simp;omega
  rintro f r⟨rfl,s⟩;obtain⟨K,ab⟩:=NC s;have L:E r ⟨Z w.1,0,U⟩=S (Si S6 t):=by rw[K _ _ sP];simp
  have M:E r ⟨Z w.1,1,U⟩=S (X p n c):=by rw[K _ _ sP];simp
  have x:=Xg (Xb (Below.refl (Z w.1) w) _) s;have ao:=s.size;simp at ao;have y:=Y x;have T_:=Y<|ha.keep (x.mono C);clear K ab s x ha;go_wp2
  go_loopw [4] (λq wr=>∃d:N,d<=n/\q=Si S6 d/\Sw (Z r.1) r wr/\Q ((a.take d).all (Wam_ t n)=So)) λq _=>n-(intOf q).toNat
  case atStart=>exact⟨0,aN,R,Rf,R⟩
  obtain⟨d,hk,rfl,v,K_⟩:=hrel;have af:=v.size;by_cases a4:d<n
  .have u:d<J a:=by have:=l.o;omega
   obtain⟨ap,o_,rfl,⟨_,aq⟩,hc⟩:=T_.o d u;obtain⟨ia,ic,f1,⟨f2,f3,T,B⟩,Q_⟩:=hc;have az:=ac.o _<|aH u;have S_:=Y λh=>JN (p:=Wam_ t n) (xs:=a) (k:=d) u h;have aj:=Y λh=>XY (p:=Wam_ t n) u K_.o h;have U_:=Y Q_;clear Q_;generalize a[d]=o at*;have V:Q (Wam_ t n o=(o.is.all (Yw t 13)&&Zu t 0 n ⟨o.te.kind,o.te.a,o.te.to,o.te.els⟩)):=R;have a2:(0:I)<=(d:I):=O;have a3:(d:I)<(n:I):=O;go_wp2;have V_:=Y v;clear v
   go_loopw [5] (λq wi=>∃j:N,j<=J o.is/\q=Si S6 j/\Sw (Z r.1) r wi/\Q ((o.is.take j).all (Yw t 13)=So)) λq _=>J o.is-(intOf q).toNat
   case atStart=>exact⟨0,aN,R,V_.o,R⟩
   clear af;obtain⟨j,hj,rfl,b,L_⟩:=hrel;have e1:=G (XU b O) f1;have r0:=G (XU b O) L;have r1:=G (XU b O) M;have a6:=b.size;by_cases F:j<J o.is
   .obtain⟨b',o',rfl,⟨_,ar⟩,N_⟩:=U_.o j F;obtain⟨g0,g1,g2,g3,g4⟩:=N_.keep b O;have ad:=Y λh=>JN (p:=Yw t 13) (xs:=o.is) (k:=j) F h;have al:=Y λh=>XY (p:=Yw t 13) F L_.o h;have a0:(0:I)<=(j:I):=O;have a1:(j:I)<(J o.is:I):=O;clear N_ f1 f2 f3 T B L M;generalize o.is[j]=P at*;cases hr:Yw t 13 ⟨P.op,P.dst,P.a,P.b,P.imm⟩
    .have e:=Y hr;go_wp2
     go_region_with (go_at_call 51;refine(Ur).mono ?_;rintro f W⟨rfl,i⟩;rw[Xw e])
     all_goals
      go_wp2;go_ret;exact⟨Xl (by rw[g.o,Xw S_<|by rw[V.o,Xw ad e.o];rfl]),Xg y.o<|Xg b.drew i⟩
    have e:=Y hr;go_wp2
    go_region_with (go_at_call 51;refine(Ur).mono ?_;rintro f W⟨rfl,i⟩;rw[Xw e])
    all_goals
     go_wp2;exact⟨⟨j+1,O,gM,Xg b.drew i,Xw al e.o⟩,SA⟩
   have Z_:=Y<|YE (p:=Yw t 13) (xs:=o.is) (k:=j) O L_.o;have e2:=G (XU b O) f2;have e3:=G (XU b O) f3;have e4:=G (XU b O) T;have e5:=G (XU b O) B;clear f1 f2 f3 T B L M;cases hr:Zu t 0 n ⟨o.te.kind,o.te.a,o.te.to,o.te.els⟩
   .have e:=Y hr;clear hr;go_wp2
    go_region_with (go_at_call 52;refine(KS).mono ?_;rintro f W⟨rfl,i⟩;rw[Xw e])
    all_goals
     go_wp2;go_ret;exact⟨Xl (by rw[g.o,Xw S_<|by rw[V.o,e.o];simp]),Xg y.o<|Xg b.drew i⟩
   have e:=Y hr;clear hr;go_wp2
   go_region_with (go_at_call 52;refine(KS).mono ?_;rintro f W⟨rfl,i⟩;rw[Xw e])
   all_goals
    go_wp2;exact⟨⟨d+1,O,gM,Xg b.drew i,Xw aj<|by rw[V.o,e.o,Z_.o];rfl⟩,SA⟩
  have Y_:=Y (YE (p:=Wam_ t n) (xs:=a) (k:=d) (by have:=l.o;omega) K_.o);go_wp2;go_ret;exact⟨Xl (by rw[g.o,Y_.o]),Xg y.o v⟩
 have g:Q (Wao_ t a=Sn):=War_ (by have:=l.o;omega);have aa:t<1\/(1<=t/\64<t)\/(1<=t/\t<=64/\n<1)\/(1<=t/\t<=64/\1<=n/\3000<n):=O;clear O_;obtain z_|⟨z_,d1⟩|⟨z_,d1,d2⟩|⟨z_,d1,d2,d3⟩:=aa
 all_goals
  go_in
  go_wp2;go_ret;exact⟨Xl g.symm,Xb Rf _⟩
end
end Go.Proofs.YtnggdhnpjfigjaaGreatDoor
