import Derived.Test.YtcncjgijikoapaaGreatDoorOwn
import Derived.Deep.QuietTactic
import Derived.RangeFuncNested
import Derived.RangeFuncBound
import Derived.RangeFuncCalls
import Derived.RangeFuncLeaves
import Derived.Shelf.Abstract
import Derived.Shelf.RegionOpen
import Derived.OwnWalkIn
import Derived.TacticsInMore
import Derived.LoopNIn
import Derived.LoopIn
namespace Go.Proofs.YtcncjgijikoapaaGreatDoor
set_option maxHeartbeats 4000000
set_option maxRecDepth 100000
open _root_ renaming Array.size->Z,List.length->J,Nat->N,Int->I,rfl->R,Option.some->S,Option.none->U,List.range->Rg,Bool.false->Sn,Bool.true->So,absurd->Sz,Decidable.decide->Jd
open Go renaming World.cell?->E,World.alloc->D,World.setCell->Se,IntKind.i64->S6,Ending.returned->Rt,RowKit.Below->Sw,Calls->Sk,RowKit.intOf->JB,World.ownsRow->Sx,Obj.cells->Sc
open Value renaming slice->X,int->Si,bool->Sb,agg->Sa,tuple->St,pointer->Sj
open Go.RowKit Go.Proofs.Tryz Go.Shelf
variable{t:I}{n m k B g i c:N}{w v u:Ub}{a:Uj}{p:Uy}{h:Vu}{d:Vv}{l:Wc}{x:Wi}
theorem Qg:(prog.info? 173).map (λi=>(i.8,i.3,i.4))=S (S<|Si .u64 0,1,8):=vZ
theorem P5(f:N)(h:f=100\/f=100)(g K x W)(w:Ub)(d:Q (XA W))(b:Q (w.rowIs g 173 K λj=>Si .u64 (W j)))(u:x<64*K)(hK:K<=1000):Sk prog f #[Sa #[Hl g K K],H x] w λe k=>e=Rt (Sb (Xh W x))/\Sw (Z w.1) w k:=by
 have n:=rh x;have p:=rg x;have hq:x/64<K:=O;have s:x%64<64:=dS _ vY;have a:=b.cell hq;have i:=b.lt;have q:=λo=>oB (Xb (dC (Z w.1) w) o) a i;have c:Q ((bits .and .u64 ((W (x/64):I)/2^(x%64)) 1==1)=Xh W x):=Y<|ux (d _);generalize r:x/64=l at*;generalize t:x%64=v at*;generalize W l=m at*;obtain rfl|rfl:=h
 go_in
 rotate_left
 go_in
 rotate_left
 all_goals (
  go_wp2;go_ret
  exact⟨AM c,Xb Rf _⟩)
theorem Ps(f:N)(c:f=109\/f=99\/f=77)(a:N)(w:Ub)(k:a<=60000):Sk prog f #[H a] w λe b=>∃g,e=Rt (Sa #[Hl g ((a+63)/64) ((a+63)/64)])/\Z w.1<=g/\Sw (Z w.1) w b/\b.rowIs g 173 ((a+63)/64) (λ_=>Si .u64 ((0:N):I)):=by
 have i:=fM (P:=prog) 84 173 (Si .u64 0) 8 underlying84 Qg R S6 S6 ((a+63)/64) O O;have hq:((a:I)+63).tdiv 64=(((a+63)/64:N):I):=by rw[fY O];omega
 have j:((a:I)+64-1)=(a:I)+63:=O;have hK:(a+63)/64<=1000:=O;generalize (a+63)/64=K at*;obtain rfl|rfl|rfl:=c
 go_in
 rotate_left
 go_in
 rotate_left
 go_in
 rotate_left
 all_goals (
  go_wp2;refine YL (v:=Sa #[Hl (Z w.1+1) K K]) ?_;refine⟨Z w.1+1,R,O,Xb (Xb Rf _) _,?_⟩;have d:=λh=>by have:=dG (D w h) (Si .u64 0) K 173;rwa[aO]at this
  exact d _)
theorem Pu(f:N)(y:f=107\/f=101\/f=79)(g K C n c W m)(a:Wa)(L B w)(ha:Q (Xf w L B m<|a.map Int.ofNat))(v:Q (n=J a))(hn:n<=4000)(z:Q (∀t∈a,t<64*K))(hK:K<=1000)(F:Q (XA W))(s:Q (Cp w g K C W))(X_:B<=Z w.1)(aa:¬(L<=g/\g<B)):
 Sk prog f #[Sa #[Hl g K C],X m n c] w λe x=>e=Rt (St #[])/\w.grownBy x (S g)/\Cp x g K C (E2 W a):=by
 obtain rfl|rfl|rfl:=y
 go_in
 rotate_left
 go_in
 rotate_left
 go_in
 rotate_left
 all_goals (
  go_wp2;have hg:=s.lt
  go_loopw [8] (λu wr=>∃q:N,q<=n/\u=H q/\Q (w.grownBy wr<|S g)/\E wr (A (Z w.1) 0)=S (Hl g K C)/\Q (Cp wr g K C<|E2 W (a.take q))) λu _=>n-(JB u).toNat
  .exact⟨0,aN,R,Y<|bW _ _ _,sP,Y<|s.alloc _⟩
  case round=>
   obtain⟨q,hq,rfl,h,M,b⟩:=hrel;by_cases ab:q<n
   .have l:q<J a:=oN v.o
    obtain⟨o,P,rfl,Y_,p⟩:=ha q (by simpa using l);have k:=G (Xc<|h.5 o O λe=>by injection e with e;omega) p;rw[cM]at k;have af:=z _<|aH l;have T:=Y<|VW (W:=W) l;have V:=Y<|Zs (a.take q) F;generalize a[q]=t at*;have U_:=rh t;have V_:=rg t;have R_:Cl wr o (P+q) (H t):=k;generalize E2 W (a.take q)=j at*;have r:t/64<K:=O;have J_:t%64<64:=dS _ vY;have S_:=b.cell r;have T_:=b.frozen;have z_:=Y<|tZ J_ (V<|t/64);have y_:Q (∀i,(if i=t/64 then j (t/64)|||2^(t%64)else j i)=E2 W (a.take<|q+1) i):=Y (λi=>by
     rw[T.o];unfold YH;by_cases e:i=t/64;·rw[aU e,aU e,e]
     rw[aM e,aM e])
    generalize Z_:t/64=d at*;generalize ac:t%64=Q_ at*;go_wp2;go_region;go_wp2;rw[z_.o];have O_:wr.grownBy (Se wr (A g d) (Si .u64 ((j d|||2^Q_:N):I))).drew (S g):=⟨R,R,R,by simp[World.setCell,World.drew],λal _ I_=>cY λe=>I_<|by rw[e]⟩;refine⟨⟨q+1,O,gM,Y (h.andThen O_ λaj H_=>by cases H_;exact aZ R),?_,Y ?_⟩,SA⟩;·exact G (bH wr (A g d) (A (Z w.1) 0) _ (by show g≠Z w.1;omega)) M
    refine Cp.drew ((b.set d _ r).congr λi _=>?_);rw[<-y_.o i]
   have ad:q=n:=O;have E_:Q (a.take q=a):=Y<|aW (oN v.o);rw[E_.o]at b;go_wp2
   go_end0
   exact⟨R,h,b⟩)
theorem P8(l:N)(L:l=110\/l=110)(g b c K C n k x F T w)(r:Q (XA x))(m:Q (XA F))(P:Q (XA T))(hK:K<=1000)(z:Q (Cp w g K C x))(y:Q (Cp w b K n F))(M:Q (Cp w c K k T))(V:c≠g)(W:Q (b=g->x=F)):
 Sk prog l #[Sa #[Hl g K C],Sa #[Hl b K n],Sa #[Hl c K k]] w λe B=>e=Rt (Sb (Ix x F T K))/\w.grownBy B (S g)/\Cp B g K C (NR x F T):=by
 obtain rfl|rfl:=L
 go_in
 rotate_left
 go_in
 rotate_left
 all_goals (
  go_wp2;have l1:=z.lt;have Y_:=y.lt;have Z_:=M.lt
  go_loopw [7,14] (λG_ u wr=>∃q:N,q<=K/\u=H q/\G_=Sb (Ix x F T q)/\Q (w.grownBy wr<|S g)/\E wr (A (Z w.1) 0)=S (Hl g K C)/\E wr (A (Z w.1+2) 0)=S (Hl c K k)/\Q (Cp wr g K C λi=>if i<q then NR x F T i else x i)) λ_ u _=>K-(JB u).toNat
  .exact⟨0,aN,R,by rw[AK],Y (((bW w _ _).andThen (bW _ _ _) λv d=>aZ d).andThen (bW _ _ _) λv d=>aZ d),SC,SC,Y<|(((z.alloc _).alloc _).alloc _).congr λi _=>sP⟩
  case round=>
   obtain⟨q,hq,rfl,rfl,f,U_,V_,h⟩:=hrel;by_cases j:q<K
   .have e1:Cl wr g q (Si .u64 (x q)):=G (h.cell j) sP
    have e3:=G (Xc<|f.5 c Z_ λe=>V<|by injection e) (M.cell j);have e2:E wr (A b q)=S (Si .u64 (F q)):=by
     by_cases e:b=g;·rw[<-W.o e,e];exact e1
     exact G (Xc<|f.5 b Y_ λE_=>e<|by injection E_) (y.cell j)
    have ez:=h.frozen;have aa:=kM (F q) (T q) (m q) (P q);have P_:F q&&&(18446744073709551615-T q)<18446744073709551616:=iC jB<|m q;have ab:bits .andNot .u64 ((F q&&&(18446744073709551615-T q):N):I) (x q:I)=((NT x F T q:N):I):=kM _ (x q) P_ (r q);have ac:bits .or .u64 (x q:I) ((NT x F T q:N):I)=((NR x F T q:N):I):=u64_or_nat _ _ (r q) (WR m q);have o:=Y<|AL x F T q;have W_:g≠Z w.1:=O;have X_:g≠Z w.1+2:=O;have p:Q (Cp (Se wr (A g q) (Si .u64 (NR x F T q:I))) g K C λi=>if i<q+1 then NR x F T i else x i):=Y ((h.set q _ j).congr (λi _=>by
     by_cases e:i=q;·subst e;simp
     rw[aM e];by_cases e2:i<q;·rw[aU e2,aU O]
     rw[aM e2,aM O]))
    have x_:wr.grownBy (Se wr (A g q) (Si .u64 (NR x F T q:I))) (S g):=⟨R,R,R,SH,λaf _ N_=>cY λe=>N_<|by rw[e]⟩;have a:=Y (f.andThen x_ λv d=>by cases d;exact aZ R);have s:=G (bH wr (A g q) (A (Z w.1) 0) (Si .u64 (NR x F T q:I)) W_) U_;have t:=G (bH wr (A g q) (A (Z w.1+2) 0) (Si .u64 (NR x F T q:I)) X_) V_;generalize J_:F q&&&(18446744073709551615-T q)=ad at*;generalize NR x F T q=Bq at*;generalize NT x F T q=D_ at*;generalize x q=Sq at*;generalize F q=Oq at*;generalize T q=Tq at*;generalize Ix x F T q=F_ at*;cases F_ with
    |true=>
     go_wp2;go_region;go_wp2;exact⟨⟨q+1,O,gM,by rw[o.o];rfl,Y ⟨a.1,a.2,a.3,a.4,a.5⟩,s,t,Y p.drew⟩,SA⟩
    |false=>
     go_wp2;go_region;go_wp2;exact⟨⟨q+1,O,gM,by rw[o.o];cases D_<;>rfl,Y ⟨a.1,a.2,a.3,a.4,a.5⟩,s,t,Y p.drew⟩,SA⟩
   have Q_:q=K:=O;subst Q_;go_wp2;go_ret
   exact⟨R,f,h.congr λi M_=>by rw[aU M_]⟩)
abbrev Ty:=@Ps 109<|bC R
abbrev ZG:=@Pu 107<|bC R
abbrev Tv:=@P8 110<|bC R
abbrev Jm:=@P5 100<|bC R
abbrev Tt:=@Ps 99<|aZ (bC R)
abbrev Tz:=@Pu 101<|aZ (bC R)
def XR(w:Ub)(L B:N)(d:Uy)(a:Tm):Prop :=
 ∀i (h:i<J a),∃b o,d=S ⟨b,o,U⟩/\(L<=b/\b<B)/\∃c e,E w ⟨b,o+i,U⟩=S (X c (J a[i]) e)/\Xf w L B c a[i]
theorem XR.keepS{w' c}(h:XR w n m p c)(k:YA n m w w'):XR w' n m p c:=λl j=>by let⟨b,o,f,a,d,e,g,i⟩:=h l j;exact⟨b,o,f,a,d,e,G (Xc<|k b a.1 a.2) g,i.keepS k⟩
theorem XR.keep{w':Ub}{a}(h:XR w n m p a)(k:Sw m w w'):XR w' n m p a:=h.keepS<|ZU k
theorem XR.mono{a}(h:XR w n m p a)(o:k<=n)(l:m<=B):XR w k B p a:=λj i=>by let⟨c,q,e,r,b,d,f,g⟩:=h j i;exact⟨c,q,e,O,b,d,f,g.mono o l⟩
def YT(w:Ub)(b n:N)(P:Tj)(a:Vu):Prop :=
 w.rowIs b 26 n a/\(∀i,i<n->Sx w (b+1) 2 1 (a i) (J (P i)) ((P i).map (Si S6)))/\(∀i j,i<n->j<n->i≠j->(a i).ownBlock=U\/(a i).ownBlock≠(a j).ownBlock)
theorem YT.alloc{P}(a:YT w n m P h)(o):YT (D w o) n m P h:=⟨a.1.alloc o,λi b=>(a.2.1 i b).alloc o,a.2.2⟩
theorem YT.below{P}(a:YT w n m P h)(k:Sw (Z w.1) w v):YT v n m P h:=by refine⟨a.1.of_block<|k.5 _ a.1.lt,λi d=>?_,a.2.2⟩;refine(a.2.1 i d).kept (row:=U) ⟨k.1,k.2,k.3,k.4,λb c _=>k.5 b c⟩ ?_;cases (h i).ownBlock<;>simp
theorem YT.congr{P P'}(a:YT w n m P h)(e:∀i,i<m->P i=P' i):YT w n m P' h :=
 ⟨a.1,λi b=>by rw[<-e i b];exact a.2.1 i b,a.2.2⟩
theorem YT.step{P}(a:YT w n m P h)(s:k<m)(x)(d:Uj)(r:w.grownBy v (h k).ownBlock)(u:Sx v (n+1) 2 1 d (J (P k)+1) ((P k).map (Si S6)++[Si S6 x]))(p:d.ownBlock=(h k).ownBlock\/d.ownBlock=S (Z w.1)):
 YT (Se v ⟨n,k,U⟩ d) n m (λi=>if i=k then P k++[x]else P i) (λi=>if i=k then d else h i):=by
 have y:=a.1.of_block (r.5 _ a.1.lt λe=>by have:=((a.2.1 k s).lt _ e.symm).1;omega);refine⟨y.set k d,λi b=>?_,λi j b g f=>?_⟩
 .refine ke ?_ SG _;by_cases e:i=k
  .subst e;simp only[gG,aQ,bA,bO,bG,eH,fZ];exact u
  simp only[e,fD];exact(a.2.1 i b).kept r (a.2.2 i k b s e)
 have fresh:∀c,c<m->(h c).ownBlock=U\/(h c).ownBlock≠S (Z w.1):=λc t=>by
  by_cases e:(h c).ownBlock=S (Z w.1);·have:=((a.2.1 c t).lt _ e).2;omega
  exact aZ e
 by_cases e1:i=k
 .subst e1;have e2:¬j=i:=λe=>f e.symm;simp only[gG,e2,fD];obtain q|q:=p;·rw[q];exact a.2.2 i j b g f
  right
  rw[q];intro o;obtain l|l:=fresh j g;·rw[l]at o;cases o
  exact l o.symm
 simp only[e1,fD];by_cases e2:j=k
 .subst e2;simp only[gG];obtain q|q:=p;·rw[q];exact a.2.2 i j b g f
  rw[q];exact fresh i b
 simp only[e2,fD];exact a.2.2 i j b g f
theorem YT.ints{P}(a:YT w n m P h):XR w n (Z w.1) (S ⟨n,0,U⟩) ((Rg m).map P):=λi b=>by
 simp only[bK,gI]at b;let⟨d,c,e,ha⟩:=Xk<|a.2.1 i b;refine⟨n,0,R,⟨aA,a.1.lt⟩,d,c,?_,?_⟩
 .simp only[cM,dW,aV];rw[a.1.cell b,e]
 simp only[cM,dW];exact ha.mono O<|aA
theorem RG:(prog.info? 26).map (λi=>(i.8,i.3,i.4))=S (S Hq,1,24):=vZ
theorem YT.born(w:Ub)(n):YT (D w<|Sc (madeCells #[X U 0 0] n) 26) (Z w.1) n (λ_=>[]) (λ_=>X U 0 0) :=
 ⟨dG _ _ _ _,λ_ _=>dA,λ_ _ _ _ _=>bC R⟩
def mp(a:Wi)(n:N):Prop:=∀x∈a,(∀t∈x.3.tg,0<=t/\t<(n:I))/\x.3.tg.Nodup
def Yk(b:Wi)(k:N)(a:Wc)(i:N):Wc:=AQ (b.take k) 0 i++(if a.contains (i:I)then [(k:I)]else [])
theorem J5:Yk x n [] m=AQ (x.take n) 0 m:=by simp[Yk]
theorem TD(i)(a:n<J x):Yk x n x[n].3.tg i=AQ (x.take<|n+1) 0 i:=by unfold Yk;rw[X7 a,ZK];simp[jZ<|dU a]
theorem Uu(a k i)(h:(n:I)∉l):Yk a k (l++[(n:I)]) i=if i=n then Yk a k l n++[(k:I)]else Yk a k l i:=by
 unfold Yk;by_cases e:i=n
 .subst e;simp[h]
 have b:(l++[(n:I)]).contains i=l.contains (i:I):=by
  rw[eQ];simp only[eY,bU,cS];constructor
  .rintro(h|h);·exact h
   omega
  exact bC
 rw[aM e,b]
theorem UW(a:Wi)(k i b)(h:k<=J a):J (Yk a k b i)<=k+1:=by unfold Yk;have:=YO i (a.take k) 0;simp only[dH]at this;rw[aQ];split<;>simp<;>omega
theorem KF(ab c_)(ha:Q (Xp w m k p x))(L:Q (n=J x))(hn:n<=1048576)(hB:k<=Z w.1)(e:Q (mp x n)):
 Sk prog 14 #[Sa #[H ab,X p n c_]] w λf w'=>∃c,f=Rt (Hl (Z w.1+1) n n)/\Sw (Z w.1) w w'/\YT w' (Z w.1+1) n (λi:N=>AQ x 0 (i:I)) c:=by
 have bp:=fM (P:=prog) 43 26 Hq 24 underlying43 RG R S6 S6 n O O
 go_in
 go_wp2
 go_loopw [15] (λi wr=>∃a:N,a<=n/\i=H a/\Sw (Z w.1) w wr/\Q (∃c,YT wr (Z w.1+1) n (Yk x a []) c)) λi _=>n-(JB i).toNat
 .exact⟨0,aN,R,Xb (Xb Rf _) _,⟨_,by have:=YT.born (D w<|Sc #[H ab,X p n c_] 25) n;rw[aO]at this;exact this⟩⟩
 obtain⟨a,hk,rfl,y,v⟩:=hrel;by_cases bo:a<n;rotate_left
 .go_wp2;go_ret;obtain⟨c,d⟩:=v.o;have f:=aW (l:=x) (i:=a) (oN L.o);exact⟨c,R,y,d.congr (P':=λi:N=>AQ x 0 i) λi _=>by rw[J5,f]⟩
 have F:a<J x:=oN L.o;obtain⟨bf,b1,rfl,⟨_,bi⟩,R_⟩:=ha a F;obtain⟨pa,pc,ia,ic,e0,e1,⟨e2,e3,e4,e5⟩,_,_⟩:=R_.keep (y.mono hB) O;have a7:=Y λi=>TD i F;obtain⟨S_,T_⟩:=e _<|aH F;have af:=Y S_;have aj:=Y T_;clear R_ S_ T_;generalize x[a]=P at*;go_wp2_with fail
 refine(J4 P.3 _).mono ?_;rintro f o⟨a1,c1,rfl,P_,V_⟩;have Q_:=Xg (Xb (dC (Z wr.1) wr) _) P_;have bb:=P_.4;simp at bb;have bx:Z wr.1<Z o.1:=O;have N_:=Y V_;have bh:Z w.1+1<Z wr.1:=by obtain⟨c,d⟩:=v.o;exact d.1.lt
 have HR:Q (∃c,YT o (Z w.1+1) n (Yk x a []) c/\∀i g,i<n->(c i).ownBlock=S g->g<=Z wr.1\/Z o.1<=g):=by obtain⟨c,d⟩:=v.o;exact⟨c,d.below Q_,λi g u e=>by have:=((d.2.1 i u).lt g e).2;omega⟩
 have HW:=Y<|Xg y Q_;have bv:J P.3.tg<=2:=by unfold Yj.tg;split<;>(try split)<;>simp
 generalize hT:P.3.tg=b at*;clear hT V_ v e0 e1 e2 e3 e4 e5 y;simp only[aO]at N_;generalize hM:Z wr.1=M at*;clear hM;go_wp2
 go_loopw [24] (λi s=>∃j:N,j<=J b/\i=H j/\Sw (Z w.1) w s/\Z o.1<=Z s.1/\Q (Xf s (M+1) (Z o.1) a1 b)/\Q (∃c,YT s (Z w.1+1) n (Yk x a<|b.take j) c/\∀i g,i<n->(c i).ownBlock=S g->g<=M\/Z o.1<=g)) λi _=>J b-(JB i).toNat
 .exact⟨0,aN,R,HW,aA,N_,HR⟩
 obtain⟨j,s_,rfl,K,br,W_,T⟩:=hrel;by_cases V:j<J b
 .obtain⟨b',o',rfl,_,bm⟩:=W_ j V
  obtain⟨a4,bt⟩:=af _<|aH V;have a2:Q (b[j]∉b.take j):=by intro hm;obtain⟨b0,a0,Y_⟩:=bR hm;simp only[dH]at a0;rw[jG]at Y_;have:=(List.getElem_inj aj).1 Y_;omega
  have a5:Q (b.take (j+1)=b.take j++[b[j]]):=X7 V;obtain⟨c,d,O_⟩:=T.o;have B:=Y O_;clear O_;obtain⟨t,a6⟩:=bX a4;generalize b[j]=be at*;subst a6;have l:t<n:=O;have ao:=d.1.cell l;have ap:=d.1.frozen t;have bq:=UW x a t (b.take j) (oN L.o);have h:=Y d;clear d T;go_wp2_with (at_builtin;refine YC RH (h.2.1 t l) ?_ (hs:=oN h.1.lt))
  intro v1 z W q _ C;obtain⟨av,cv,J_,_⟩:=Xk (xs:=Yk x a (b.take j) t++[(a:I)]) (by rw[Yl];exact W);have a3:=Y ((h.alloc<|Sc #[H a] 2).step l a v1 q W (by rw[aO];exact C));have D_:z.1[Z w.1+1]?=(D wr<|Sc #[H a] 2).1[Z w.1+1]?:=YJ q ((h.alloc<|Sc #[H a] 2).2.1 t l) O (by have:=h.1.lt;simp;omega);have al:=Y (Xy (Xb K<|Sc #[H a] 2) q ((h.alloc<|Sc #[H a] 2).2.1 t l) O (by have:=K.4;simp;omega));have bl:E z (A (Z w.1+1) t)=S (c t):=by rw[Xc D_];exact((h.alloc<|Sc #[H a] 2).1).cell l
  have bn:z.frozen? (A (Z w.1+1) t)=Sn:=by rw[bJ (w:=D wr<|Sc #[H a] 2) (a:=(A (Z w.1+1) t)) D_];exact((h.alloc<|Sc #[H a] 2).1).frozen t
  have aq:=q.4;simp at aq;have I_:YA (M+1) (Z o.1) wr z:=λr q1 q2=>G (q.5 r SB λf=>by have:=B t r l f.symm;omega) (gF _ _ _ O);have bd:=Y I_;have az:=Y<|W_.keepS I_;have ad:=Y C;have HV:=Y J_;clear I_;clear W q C D_ ao ap;rw[J_];clear J_;go_wp2;have aa:=HV.o;rw[aQ,bA,bO,aV]at aa;rw[<-aa];refine⟨⟨j+1,O,gM,al.setCell SG _,SF,az.keepS ((YA.refl _ _ _).setCell (bC<|by dsimp only;omega) _),⟨_,(a3).congr λi _=>?_,λi g u e=>?_⟩⟩,SA⟩;·rw[a5.o,Uu x a i a2.o]
  by_cases f:i=t
  .subst f;simp only[gG]at e;obtain r|r:=ad.o;·exact B i g u<|by rw[<-r];exact e
   rw[r]at e;have:=gQ e;omega
  simp only[f,fD]at e;exact B i g u e
 have ac:=Y<|aW (l:=b) (i:=j) O;go_wp2;refine⟨⟨a+1,O,gM,K,?_⟩,SA⟩;obtain⟨c,d,_⟩:=T.o;exact⟨c,d.congr λi _=>by rw[ac.o,a7.o,J5]⟩
theorem VG(v c L B)(ha:Q (Xp w L B p x))(k:Q (n=J x))(j:n<=1048576)(f:B<=Z w.1)(i:Q (mp x n)):
 Sk prog 14 #[Sa #[H v,X p n c]] w λe a=>∃b d,e=Rt (X b n d)/\Sw (Z w.1) w a/\XR a (Z w.1) (Z a.1) b ((Rg n).map λl:N=>AQ x 0 (l:I)) :=
 (KF v c ha k j f i).mono (by rintro e a⟨o,rfl,g,h⟩;exact⟨_,_,R,g,h.ints.mono O<|aA⟩)
theorem Zr(d:I->N->Ph->Bool)(F):∀(b:Wi)(a:N),Zi d F b a=So↔∀j (h:j<J b),b[j].1.all (d F.1 (J (F.preds ((a+j:N):I))))=So
 |[],_=>by simp[Zi]
 |x::b,a=>by
  simp only[Zi,bY,Zr d F b<|a+1];constructor
  .rintro⟨f,g⟩ j c;cases j with
   |zero=>exact f
   |succ j=>
    have:=g j SK;have e:a+1+j=a+(j+1):=O;rw[e]at this;exact this
  intro h;refine⟨h 0 sP,λj c=>?_⟩;have:=h (j+1) SK;have e:a+1+j=a+(j+1):=O;rw[e];exact this
theorem Wg(a:I->N->Ph->Bool)(F)(c:k<J F.2)(h:F.2[k].1.all (a F.1 (J (F.preds (k:I))))=Sn):Zi a F F.2 0=Sn:=by rw[lY];intro b;have:=(Zr a F F.2 0).1 b k c;rw[aV,h]at this;cases this
theorem AG(ha:Q (Xp w m k p x))(M:Q (n=J x))(hn:n<=1048576)(hl:Q (∀ap∈x,J ap.1<=1048576/\∀bb∈ap.1,J bb.2<=1048576))(W_:k<=Z w.1)(hg:Q (mp x n)):
 Sk prog 97 #[Sa #[H t,X p n c]] w λg w'=>g=Rt (Sb (KL ⟨t,x⟩))/\Sw (Z w.1) w w':=by
 go_in
 go_wp2_with fail
 refine(VG t c m k ?q1 M hn ?q2 hg).mono ?_
 case q1=>exact ha.keep (Xb Rf _ |>.mono W_)
 case q2=>simp;omega
 rintro g o⟨pa,pc,rfl,z,ao⟩;have W:=Xg (Xb (dC (Z w.1) w) _) z;have a9:=z.4;simp at a9;let⟨K,a1⟩:=NC z;have k0:E o (A (Z w.1) 0)=S (H t):=by rw[K _ _ sP];simp
 have k1:E o (A (Z w.1) 1)=S (X p n c):=by rw[K _ _ sP];simp
 have HA:=Y<|ha.keep (W.mono W_);have a0:=Y ao;have r:=Y W;clear K a1 ao z ha W;go_wp2
 go_loopw [15] (λi wr=>∃a:N,a<=n/\i=H a/\Sw (Z o.1) o wr/\Q (∀j (h:j<J x),j<a->x[j].1.all (ZX t (J (AQ x 0 j)))=So)) λi _=>n-(JB i).toNat
 .exact⟨0,aN,R,Rf,λj _ h=>Sz h O⟩
 obtain⟨a,hk,rfl,d,Z_⟩:=hrel;by_cases a3:a<n;rotate_left
 .go_wp2;go_ret
  exact⟨Xl (by symm;exact(Zr ZX ⟨t,x⟩ x 0).2 λj B=>by rw[aV];exact Z_ j B<|oN M.o),Xg r d⟩
 have L:a<J x:=oN M.o;obtain⟨bd,bt,rfl,⟨_,bh⟩,hc⟩:=HA a L;let⟨bv,bx,ia,ic,R_,d1,⟨d2,d3,d4,d5⟩,hp,_⟩:=hc;have e0:=G (XU d O) R_;have e1:=G (XU d O) d1;have e2:=G (XU d O) d2;have e3:=G (XU d O) d3;have e4:=G (XU d O) d4;have e5:=G (XU d O) d5;let⟨bn,aj⟩:=hl _<|aH L;have az:=Y aj;have a4:Q (x[a].1.all (ZX t (J (AQ x 0 a)))=Sn->KL ⟨t,x⟩=Sn):=λh=>Wg ZX ⟨t,x⟩ (k:=a) L h;have al:a<J ((Rg n).map λi:N=>AQ x 0 i):=by simpa using a3
 obtain⟨gb,go,rfl,⟨_,bl⟩,a',c',u,a2⟩:=a0 a al;simp only[cM,dW]at u;have HP:=Y hp;have bo:J (AQ x 0 a)<=1048576:=oP (YO a x 0) M.o
 have aq:=Y u;have br:=d.4;have a6:Q (x[a].1.all (ZX t (J (AQ x 0 a)))=So->∀j (h:j<J x),j<a+1->x[j].1.all (ZX t (J (AQ x 0 j)))=So) :=
  λh j B bm=>if g:j=a then by subst g;exact h else Z_ j B O
 clear hp aj u a2 al R_ d1 d2 d3 d4 d5;generalize x[a]=F at*;generalize AQ x 0 a=e at*;go_wp2;generalize Y_:Z wr.1=bc at*;have HM:=Y Y_;clear Y_
 go_loopw [23] (λi wi=>∃j:N,j<=J F.1/\i=H j/\Sw (Z o.1) o wi/\Q ((F.1.take j).all (ZX t (J e))=So)) λi _=>J F.1-(JB i).toNat
 .exact⟨0,aN,R,Xb d _,R⟩
 obtain⟨j,B,rfl,b,ab⟩:=hrel;have u:=G (XU b O) aq;have ba:=G (XU b O) k0;by_cases C:j<J F.1;rotate_left
 .go_wp2;exact⟨⟨a+1,O,gM,b,Xw a6<|YE (xs:=F.1) (k:=j) O ab⟩,SA⟩
 obtain⟨b',o',rfl,⟨_,bi⟩,O_,Q_,S_,T_,hi⟩:=HP j C;have e6:=G (XU b O) S_;have e7:=G (XU b O) T_;have be:=az _<|aH C;have T:=Y λh=>Xw a4<|JN (p:=ZX t (J e)) (xs:=F.1) (k:=j) C h;have a7:=Y λh=>XY (p:=ZX t (J e)) C ab h;have ar:=Y hi;clear S_ T_ hi;generalize F.1[j]=P at*;have bp:Z w.1<Z wr.1:=oN b.4;have bq:gb<Z wr.1:=oN b.4;have v:Q (ZX t (J e) P=(Tp So P.1 0 t&&(Jd (1<=J P.2)&&Jd (J P.2=J e)&&P.2.all (To 0 t)))):=R;cases hf:Tp So P.1 0 t
 .have s:=Y hf;go_wp2
  go_quiet ((go_at_call 47;exact Calls.quiet_of_same<|Yp))
  go_wp2;go_ret;exact⟨Xl (Xw T<|by rw[v.o,s.o];rfl).symm,Xg r<|iX (Xb b _) _⟩
 have s:=Y hf;by_cases l:J P.2=0
 .have U_:((J P.2:I)==0)=So:=by simp[l]
  have G_:=Y l;clear l;go_wp2
  go_quiet ((go_at_call 47;exact Calls.quiet_of_same<|Yp))
  go_wp2;go_ret;exact⟨Xl (Xw T<|by rw[v.o,s.o,G_.o];rfl).symm,Xg r<|iX (Xb b _) _⟩
 have U_:((J P.2:I)==0)=Sn:=by rw[iS];omega
 have G_:=Y l;clear l;by_cases f:J P.2=J e
 .have V_:((J P.2:I) != (J e:I))=Sn:=by simp[f]
  have H_:=Y f;clear f;go_wp2
  go_quiet ((go_at_call 47;exact Calls.quiet_of_same<|Yp))
  go_wp2;have V:=iX (Xb b<|Sc #[H P.1,X O_ (J P.2) Q_] 152) nq;generalize (D wr<|Sc #[H P.1,X O_ (J P.2) Q_] 152).drewN nq=w9 at*;have r0:=G (XU V O) k0;clear hf U_ V_ u ba e6 e7
  go_loop [53] (λi=>∃q:N,q<=J P.2/\i=H q/\Q ((P.2.take q).all (To 0 t)=So)) λi=>J P.2-(JB i).toNat
  .exact⟨0,aN,R,R⟩
  obtain⟨q,hq,rfl,ac⟩:=hrel;by_cases M_:q<J P.2
  .obtain⟨b2,o2,rfl,⟨_,bf⟩,ad⟩:=ar q M_;have r1:=G (XU V O) ad;have a5:=Y λh=>JN (p:=To 0 t) (xs:=P.2) (k:=q) M_ h;have a8:=Y λh=>XY (p:=To 0 t) M_ ac h;clear ad;generalize P.2[q]=F_ at*;have af:Q (Tp So F_ 0 t=To 0 t F_):=R;cases hr:Tp So F_ 0 t
   .have I_:=Y hr;go_wp2_with (go_at_call 47;refine YU Yp λN_ y=>?_;rw[y];clear y N_)
    go_ret;exact⟨Xl (Xw T<|by rw[v.o,Xw a5<|by rw[<-af.o];exact I_];simp).symm,Xg r V⟩
   have I_:=Y hr;go_wp2_with (go_at_call 47;refine YU Yp λN_ y=>?_;rw[y];clear y N_)
   go_round
   .exact⟨q+1,O,gM,Xw a8<|by rw[<-af.o];exact I_⟩
   simp[JB];omega
  go_wp2
  exact⟨⟨j+1,O,gM,V,Xw a7 (by have f:=H_.o;have l:=G_.o;rw[v.o,s.o,eB f,eB (p:=1<=J P.2) O,YE (xs:=P.2) (k:=q) O ac.o];rfl)⟩,SA⟩
 have V_:((J P.2:I) != (J e:I))=So:=by rw[jJ];omega
 have H_:=Y f;clear f;go_wp2
 go_quiet ((go_at_call 47;exact Calls.quiet_of_same<|Yp))
 go_wp2;go_ret;exact⟨Xl (Xw T<|by rw[v.o,s.o,dJ H_.o];simp).symm,Xg r<|iX (Xb b _) _⟩
section
variable {F: Fence} {n: N} {P: Yh} {α: Type}
def pp(F:Fence)(n:N)(P:Yh)(h:N)(i:Zh)(g:α->Zh)(f:α->Vy)(d:Ub->Vy)(k:List α->Prop)(m:N)(w:Ub):Prop :=
 ∀(l:N)(j:List α->Vy)(W:Ub),Sw (Z w.1) w W->l<Z W.1->OwnFrom (Z W.1) j ->
  (∀b x V,j b V->f x V->J b<m->YieldAt F (n-1) P l (g x) V λe a=>e=Rt (Sb So)/\j (b++[x]) a/\d V a/\KeepsFrom (Z W.1) V a) ->
  j [] W->CallsIn F n P h (#[.func (.yield l) #[] #[]]++i) W λe V=>(∃v,e=Rt v)/\∃c,k c/\j c V
def KR(fn:FuncId)(f:Zh)(d:Array Tmp)(a b:Code)(g:N)(e:LoopState)(c:Option Code):Loop:={ state:=e,pending:=c,fn,tmps:=f,params:=d,assign:=a,body:=b,defers:=g }
def Ze(W:Ub)(a:N)(r:Loop):Prop:=W.1[a+1]?=S (.loop r)/\W.1[a]?=S (.deferred (S []))
theorem Ze.put{W b r}(h:Ze W b r)(a):Ze (W.putObj (b+1) (.loop a)) b a :=
 ⟨World.putObj_heap_same (aS.1 h.1).1,G (World.putObj_heap_other O) h.2⟩
theorem Ze.own{W V:Ub}{b r}{row:Zm}(h:Ze W b r)(g:W.grownBy V row)(a:∀k,row=S k->b+2<=k):Ze V b r :=
 ⟨G (g.5 _ (aS.1 h.1).1 λe=>by have:=a _ e.symm;omega) h.1,G (g.5 _ (aS.1 h.2).1 λe=>by have:=a _ e.symm;omega) h.2⟩
theorem Ze.keeps{W V:Ub}{a r}(h:Ze W a r)(k:KeepsOthers W V):Ze V a r:=⟨k.2 _ _ h.1 R,k.2 _ _ h.2 R⟩
theorem Ze.fin{W f c e d a b}(h:Ze W f (KR c e d a b f .busy U))(j):(Instr.endRound (f+1) j).run P W=.ok (Sb j.isNone) (W.putObj (f+1) (.loop (KR c e d a b f (if j.isNone then .ready else .done) j))):=run_endRound j h.1
theorem wj{M_:Operand}{c:Array Tmp}{h i:Code}{Q_:Yt}{a:Act}{w:Ub}(bb:F.4=U)(h1:1<=n){gf:N}{lb:Zh}(hg:a.eval M_=.func (.func gf) #[] lb)(aj:F.1 gf)(eg:∀args w,(callFunc gf args).run P w=.ok (.enter gf args) w){L:α->Zh}{u:α->Vy}{l:Ub->Vy}{S_:List α->Prop}{N_:N}{y:Ub}(bc:pp F (n-1) P gf lb L u l S_ N_ y)(ao:OwnFrom (Z w.1) u)(M:∀{p J_ K_:Ub},l p J_->l J_ K_->l p K_)(O_:∀(W:Ub)(m:N)(o o':Obj),Z w.1<=m->W.1[m]?=S o->o.isCells=Sn->l W (W.putObj m o'))(R_:Sw (Z y.1) y w)(a7:∀x,Z (L x)=Z c)(K:List α->Vy)(r:OwnFrom (Z w.1) K)(h0:K [] w)(C:α->Tf)(ad:∀x g,OwnFrom (Z w.1) λ(_:Unit) W=>C x g W)(aq:∀(m:N)(b:List α)(x:α)(W:Ub)(L_:Tf),K b W->u x W->(∀g d,KeepsOthers W d->l W d->K b d->u x d->C x g d->L_ g d)->h.wpIn (F.inRound m) (n-1-1) P (Exit.then L_ λ_ _ _=>False) { tmps:=(c.zip<|L x).foldl (λaa (p_,ab)=>aa.setIfInBounds p_ ab) a.1,defers:=[] } W)(az:∀(m:N)(b:List α)(x:α)(g:Act)(W:Ub),K b W->u x W->C x g W->J b<N_->i.wpIn (F.inRound m) (n-1-1) P (ownPostK l K (λ_ _ _=>False) (b++[x]) W) g W)(a0:∀(T:N)(B:List α)(W:Ub),Z w.1<=T->S_ B->K B W->W.1[T]?=S (.deferred (S []))->Q_ .normal { a with defers:={ target:=.collected T,args:=#[] }:: a.2 } W):
 (Code.rangeFunc M_ c h i).wpIn F n P Q_ a w:=by
 refine wpIn_rangeFunc λfn a1=>?_;rw[bb];have X_:=run_enterLoop_outer (P:=P) (w:=w) fn a.1 c h i;generalize v:D (D w<|.deferred (S [])) (.loop { state:=.ready,pending:=U,fn,tmps:=a.1,params:=c,assign:=h,body:=i,defers:=Z w.1 })=f at X_;have ap:Ze f (Z w.1) (KR fn a.1 c h i (Z w.1) .ready U):=by
  subst v;refine⟨?_,?_⟩
  .have:=World.alloc_heap_new (D w<|.deferred (S [])) (.loop (KR fn a.1 c h i (Z w.1) .ready U));rwa[aO]at this
  exact G (gF _ _ _ sP) (World.alloc_heap_new w _)
 have bh:Z f.1=Z w.1+2:=by subst v;simp
 have al:K [] f:=by subst v;exact r.alloc _<|r.alloc _ h0
 have af:Sw (Z y.1) y f:=by subst v;exact R_.trans<|(Xb (Xb (dC (Z w.1) w) _) _).mono R_.4
 refine⟨_,_,f,{ target:=.fn (.func gf) lb,args:=#[.func (.yield (Z w.1+1)) #[] #[]] },f,gf,#[.func (.yield (Z w.1+1)) #[] #[]]++lb,f,X_,?_,?_,?_,λ_=>h1,?_⟩
 .simp only[resolve,hg];simp[go_sem]
 .intro f' T_;simp[Target.leads]at T_;subst T_;exact aj
 .simp[invoke,go_sem,eg]
 have ow:∀{Z_:Loop}{p V:Ub}{row:Zm},Ze p (Z w.1) Z_->p.grownBy V row->(∀k,row=S k->Z f.1<=k/\∃o:Obj,p.1[k]?=S o/\o.isCells=Sn)->Ze V (Z w.1) Z_:=λac k q=>ac.own k (λbf e=>by have:=(q bf e).1;omega);have fr:∀{p:Ub}{row:Zm},(∀k,row=S k->Z f.1<=k/\∃o:Obj,p.1[k]?=S o/\o.isCells=Sn)->∀k,row=S k->Z w.1<=k/\∃o:Obj,p.1[k]?=S o/\o.isCells=Sn:=λq k e=>⟨oN<|(q k e).1,(q k e).2⟩
 refine(bc (Z w.1+1) (λb W=>K b W/\Ze W (Z w.1) (KR fn a.1 c h i (Z w.1) .ready U)) f af O
  (λbe p V row Y_ k q=>⟨r be p V row Y_.1 k<|fr q,ow Y_.2 k q⟩) ?_ ⟨al,ap⟩).mono ?_
 .rintro b x W⟨H_,s⟩ a8 a6;have hy:=run_yield (P:=P) s.1 (a7 x);refine⟨_,_,_,_,hy,roundIn_of_wpIn a1<|aq _ b x W _ H_ a8 λg d U_ a5 a2 a9 ar=>?_⟩;have t:=s.keeps U_;refine⟨_,run_beginRound t.1 R,?_⟩;have ba:Ze (d.putObj (Z w.1+1) (.loop (KR fn a.1 c h i (Z w.1) .busy U))) (Z w.1) (KR fn a.1 c h i (Z w.1) .busy U):=t.put _;have a4:l W (d.putObj (Z w.1+1) (.loop (KR fn a.1 c h i (Z w.1) .busy U))):=M a5<|O_ _ _ _ _ O t.1 R;refine wpIn_mono (az _ b x g _ (r.putObj _ a2 O t.1 R) (ao.putObj _ a9 O t.1 R) ((ad x g).putObj (s:=()) _ ar O t.1 R) a6) ?_;rintro e a3 V j;cases e with
  |normal=>
   have z:=ba.keeps j.1;exact⟨_,_,z.fin U,⟨R,⟨r.putObj _ j.2.2 O z.1 R,z.put _⟩,M (M a4 j.2.1) (O_ _ _ _ _ O z.1 R),(((U_.from _).trans (KeepsFrom.of_grownBy (grownBy_putObj' d _ _) λbd e=>by cases e;omega)).trans (j.1.from _)).trans (KeepsFrom.of_grownBy (grownBy_putObj' V _ _) λbd e=>by cases e;omega)⟩⟩
  |ret=>exact j.2.elim
  |exit id=>exact j.2.elim
  |goto aa=>exact j.2.elim
  |panic ch=>exact j.elim
  |outgrown=>exact j.elim
 rintro e V⟨⟨ab,rfl⟩,B,hS,H_,s⟩;exact⟨U,_,run_endLoop s.1 (by simp[KR]),a0 _ B _ aA hS (r.putObj _ H_ O s.1 R) (s.put _).2⟩
end
section
attribute [local go_sem] Oper.semAt_some
structure Zf(n₀:N)(Ms:Vv)(V V':Ub):Prop where
 size:Z V.1<=Z V'.1
 low:∀k,k<n₀->¬Ms k->V'.1[k]?=V.1[k]?
 cells:∀(k:N)(o:Obj),¬Ms k->V.1[k]?=S o->o.isCells=So->V'.1[k]?=S o
theorem Zf.refl(V):Zf n d V V:=⟨aA,λ_ _ _=>R,λ_ _ _ h _=>h⟩
theorem Zf.trans(h:Zf n d w v)(k:Zf n d v u):Zf n d w u :=
 ⟨aJ h.1 k.1,λi c a=>G (k.2 i c a) (h.2 i c a),λi o a e b=>k.3 i o a (h.3 i o a e b) b⟩
theorem Zf.putObj(W l o c)(j:n<=l)(h:W.1[l]?=S o)(g:o.isCells=Sn):Zf n d W (W.putObj l c):=by
 have f:=grownBy_putObj' W l c;refine⟨f.4,λk i _=>?_,λk m _ a b=>?_⟩;·exact World.putObj_heap_other O
 exact G (World.putObj_heap_other λe=>by subst e;rw[h]at a;injection a with a;subst a;rw[g]at b;cases b) a
theorem Zf.of_below(h:Sw (Z w.1) w v)(c:n<=Z w.1):Zf n d w v :=
 ⟨h.4,λk b _=>h.5 k O,λk o _ a _=>G (h.5 k (aS.1 a).1) a⟩
abbrev Z4:=@Zf.of_below
theorem Yn{p}(h:E w p=S a):∃o:Obj,w.1[p.1]?=S o/\o.isCells=So:=by
 unfold World.cell? at h;cases ho:w.1[p.1]? with
 |none=>simp[ho]at h
 |some o=>exact⟨o,R,by cases o<;>simp_all[Obj.isCells]⟩
theorem Zf.block(h:Zf n d w v){p}(e:E w p=S a)(f:¬d p.1):v.1[p.1]?=w.1[p.1]?:=by let⟨o,b,c⟩:=Yn e;rw[b];exact h.3 _ _ f b c
theorem Zf.cell(h:Zf n d w v){p}(b:E w p=S a)(c:¬d p.1):E v p=S a :=
 G (bZ<|h.block b c) b
def mj(x:Yg):Uj:=Sa #[Si S6 x.1,Si S6 x.2,Si S6 x.a,Si S6 x.b,Si S6 x.5]
def Us(n:N)(k:N):List (Fin n):=((List.finRange n).reverse).take (n-k)
theorem Ua:Us n n=[]:=by simp[Us]
theorem Vf:J (Us n m)=n-m:=by simp[Us]
theorem TJ(h:m<n):Us n m=Us n (m+1)++[⟨m,h⟩]:=by unfold Us;have e:n-m=(n-(m+1))+1:=O;rw[e,bN<|by simp;omega];congr 1;simp;omega
theorem V6(F n)(c:F.1 139)(d:F.4=U)(a:Uy)(len b)(w:Ub):
 CallsIn F n prog 139 #[X a len b] w λe f=>e=Rt (.func (.func 154) #[] #[Sj (S ⟨Z w.1,0,U⟩)])/\f=D w (Sc #[X a len b] 48):=by
 refine iD func139 R c ?_ d;simp only[ntmps139,xY,Nat.reduceAdd,Nat.reduceSub];gi_wp2;go_ret;exact⟨R,R⟩
end
theorem RF:(prog.info? 66).map (λi=>(i.8,i.3,i.4))=S (S<|H 0,1,8):=vZ
theorem Yz(a c)(ha:Q (Xf w n m p l))(t:Q (a=J l))(C:a<=100000)(M:m<=Z w.1):
 Sk prog 138 #[X p a c] w λB f=>∃g b,B=Rt (X g (J l) b)/\Sw (Z w.1) w f/\Xf f (Z w.1) (Z f.1) g l:=by
 have y:Q (Sx (D w<|Sc #[] 66) (Z w.1) 66 1 (Hl (Z w.1) 0 0) 0 []):=Y<|eI (base:=Z w.1) (e:=66) (size:=1) w #[] 0 sP sP R
 go_in
 go_wp2
 go_loopw [3,9] (λu i wr=>∃k:N,k<=a/\i=H k/\Sw (Z w.1) w wr/\Q (Sx wr (Z w.1) 66 1 u k<|(l.take k).map (Si S6))) λ_ i _=>a-(JB i).toNat
 .exact⟨0,aN,R,Xb Rf _,y⟩
 obtain⟨k,P,rfl,d,e⟩:=hrel;by_cases F:k<a
 .have o:k<J l:=oN t.o;obtain⟨L,T,rfl,⟨_,K⟩,h⟩:=ha k o;have V:=G (XU d O) h;have x:=Y<|X7 o;generalize l[k]=W at*;have S_:=d.4;go_wp2_with (at_builtin;refine YC RF e ?_)
  intro v1 U_ r j _ _;have z:=Y r;have v:=Y (Xy (Xb d _) j (e.alloc _) aA SB);go_wp2;exact⟨⟨k+1,O,gM,v,Y<|by rw[x.o,Yl,List.map_take];exact z⟩,SA⟩
 go_wp2;go_ret;have q:=e.o;rw[aW (l:=l) (i:=k) (oN t.o)]at q;obtain⟨K_,c1,rfl,s⟩:=Xk q;exact⟨_,_,R,d,s⟩
section
variable {F: Fence} {n: N} {P: Yh} {α: Type}
theorem Ze.keepsF{W V:Ub}{a r}(h:Ze W a r)(k:KeepsFrom a W V):Ze V a r:=⟨k.2 _ _ O h.1 R,k.2 _ _ aA h.2 R⟩
theorem JE{f V:Ub}{B a}(h:KeepsFrom B f V)(e:B<=a):KeepsFrom a f V:=⟨h.1,λk o d b c=>h.2 k o O b c⟩
end
section
variable {F: Fence} {n: N} {P: Yh} {α: Type}
def lf(F:Fence)(n:N)(P:Yh)(j:N)(k:Zh)(i:N->α->Zh)(h:N->α->Vy)(d:Ub->Vy)(p Sp:List α->Prop)(q:N)(turn m:Prop)(w:Ub):Prop :=
 ∀(l:N)(o:N->List α->Vy)(c:List α->Vy)(W:Ub),Sw (Z w.1) w W->l<Z W.1->(∀z,OwnFrom (Z W.1)<|o z)->OwnFrom (Z W.1) c->(turn->∀z s V a,Z W.1<=z->o z s V->V.grownBy a (S z)->o z s a) ->
  (m->(∀z g s V a,Z W.1<=g->o z s V->Sw (Z W.1) V a->o g s a)/\∀s V a,c s V->Sw (Z W.1) V a->c s a) ->
  (∀z b x V,Z W.1<=z->o z b V->h z x V->J b<q->YieldAt F (n-1) P l (i z x) V λe a=>(e=Rt (Sb So)/\o z (b++[x]) a/\d V a/\KeepsFrom (Z W.1) V a)\/(e=Rt (Sb Sn)/\c (b++[x]) a/\d V a/\KeepsFrom (Z W.1) V a)) ->
  (∀z V,Z W.1<=z->z<Z V.1->Sw (Z W.1) W V->o z [] V)->CallsIn F n P j (#[.func (.yield l) #[] #[]]++k) W λe V=>(∃v,e=Rt v)/\((∃z f,Z W.1<=z/\p f/\o z f V)\/∃b,Sp b/\c b V)
def DT{α:Type}(B:N)(a:World->World->Prop)(d:List α->World->Prop)(c:Code->List α->World->Prop)(b:List α)(W:World):Exit->Act->World->Prop
 |.normal,_,W'=>KeepsFrom B W W'/\a W W'/\d b W'
 |.ret,_,W'=>KeepsFrom B W W'/\a W W'/\c .ret b W'
 |.exit id,_,W'=>KeepsFrom B W W'/\a W W'/\c (.exit id) b W'
 |.goto t,_,W'=>KeepsFrom B W W'/\a W W'/\c (.goto t) b W'
 |.panic _,_,_=>False
 |.outgrown,_,_=>False
theorem nX{ao:Operand}{j:Array Tmp}{l m:Code}{Z_:Yt}{e:Act}{w:Ub}(br:F.4=U)(h1:1<=n){gf:N}{lb:Zh}(hg:e.eval ao=.func (.func gf) #[] lb)(a8:F.1 gf)(eg:∀args w,(callFunc gf args).run P w=.ok (.enter gf args) w){aa:N->α->Zh}{T:N->α->Vy}{B:Ub->Vy}{al Sp:List α->Prop}{aj:N}{turn a5:Prop}{w0:Ub}(bt:lf F (n-1) P gf lb aa T B al Sp aj turn a5 w0)(ba:∀z,OwnFrom (Z w.1)<|T z)(v:∀{p ac ad:Ub},B p ac->B ac ad->B p ad)(J_:∀(W:Ub)(y:N)(o o':Obj),Z w.1<=y->W.1[y]?=S o->o.isCells=Sn->B W (W.putObj y o'))(ar:Sw (Z w0.1) w0 w)(bn:∀z x,Z (aa z x)=Z j)(K:N->List α->Vy)(C:Code->List α->Vy)(M_:∀z,OwnFrom (Z w.1)<|K z)(H_:∀c,OwnFrom (Z w.1)<|C c)(a9:turn->∀z s V g,Z w.1<=z->K z s V->V.grownBy g (S z)->K z s g)(a2:a5->(∀z X_ s V g,Z w.1<=X_->K z s V->Sw (Z w.1+2) V g->K X_ s g)/\∀c s V g,C c s V->Sw (Z w.1+2) V g->C c s g)(h0:∀z V,Z w.1<=z->z<Z V.1->Sw (Z w.1) w V->K z [] V)(Y_:N->α->Tf)(a6:∀z x u,OwnFrom (Z w.1) λ(_:Unit) W=>Y_ z x u W)(bc:∀(y z:N)(d:List α)(x:α)(W:Ub)(af:Tf),Z w.1<=z->K z d W->T z x W->(∀u q,KeepsOthers W q->B W q->K z d q->T z x q->Y_ z x u q->af u q)->l.wpIn (F.inRound y) (n-1-1) P (Exit.then af λ_ _ _=>False) { tmps:=(j.zip<|aa z x).foldl (λT_ (p_,a4)=>T_.setIfInBounds p_ a4) e.1,defers:=[] } W)(be:∀(y z:N)(d:List α)(x:α)(u:Act)(W:Ub),Z w.1<=z->Z w.1<=y->(∃S_,W.1[y]?=S (.loop S_))->K z d W->T z x W->Y_ z x u W->J d<aj->m.wpIn (F.inRound y) (n-1-1) P (DT (Z w.1) B (K z) C (d++[x]) W) u W)(bf:∀(L z:N)(U_:List α)(W:Ub),Z w.1<=L->Z w.1<=z->al U_->K z U_ W->W.1[L]?=S (.deferred (S []))->Z_ .normal { e with defers:={ target:=.collected L,args:=#[] }:: e.2 } W)(bv:∀(L:N)(c:Code)(d:List α)(W:Ub),Z w.1<=L->Sp d->C c d W->W.1[L]?=S (.deferred (S []))->c.wpIn F n P Z_ { e with defers:={ target:=.collected L,args:=#[] }:: e.2 } W):
 (Code.rangeFunc ao j l m).wpIn F n P Z_ e w:=by
 refine wpIn_rangeFunc λfn bh=>?_;rw[br];have a1:=run_enterLoop_outer (P:=P) (w:=w) fn e.1 j l m;generalize N_:D (D w<|.deferred (S [])) (.loop { state:=.ready,pending:=U,fn,tmps:=e.1,params:=j,assign:=l,body:=m,defers:=Z w.1 })=t at a1;have aq:Ze t (Z w.1) (KR fn e.1 j l m (Z w.1) .ready U):=by
  subst N_;refine⟨?_,?_⟩
  .have:=World.alloc_heap_new (D w<|.deferred (S [])) (.loop (KR fn e.1 j l m (Z w.1) .ready U));rwa[aO]at this
  exact G (gF _ _ _ sP) (World.alloc_heap_new w _)
 have b1:Z t.1=Z w.1+2:=by subst N_;simp
 have ap:Sw (Z w.1) w t:=by subst N_;exact Xb (Xb (dC (Z w.1) w) _) _
 have a7:=ar.trans<|ap.mono ar.4;clear N_;refine⟨_,_,t,{ target:=.fn (.func gf) lb,args:=#[.func (.yield (Z w.1+1)) #[] #[]] },t,gf,#[.func (.yield (Z w.1+1)) #[] #[]]++lb,t,a1,?_,?_,?_,λ_=>h1,?_⟩
 .simp only[resolve,hg];simp[go_sem]
 .intro f' az;simp[Target.leads]at az;subst az;exact a8
 .simp[invoke,go_sem,eg]
 have ow:∀{S_:Loop}{p V:Ub}{row:Zm},Ze p (Z w.1) S_->p.grownBy V row->(∀k,row=S k->Z t.1<=k/\∃o:Obj,p.1[k]?=S o/\o.isCells=Sn)->Ze V (Z w.1) S_:=λab k r=>ab.own k (λz h=>by have:=(r z h).1;omega);have fr:∀{p:Ub}{row:Zm},(∀k,row=S k->Z t.1<=k/\∃o:Obj,p.1[k]?=S o/\o.isCells=Sn)->∀k,row=S k->Z w.1<=k/\∃o:Obj,p.1[k]?=S o/\o.isCells=Sn:=λr k h=>⟨oN<|(r k h).1,(r k h).2⟩
 refine(bt (Z w.1+1) (λz d W=>K z d W/\Ze W (Z w.1) (KR fn e.1 j l m (Z w.1) .ready U)) (λd W=>∃c,C c d W/\Ze W (Z w.1) (KR fn e.1 j l m (Z w.1) .done<|S c)) t a7 O
  (λz s p V row i k r=>⟨M_ z s p V row i.1 k<|fr r,ow i.2 k r⟩) (λs p V row i k r=>by let⟨c,hc,f⟩:=i;exact⟨c,H_ c s p V row hc k<|fr r,ow f k r⟩) (λht z s V g Q_ i k=>⟨a9 ht z s V g O i.1 k,i.2.own k λr h=>by injection h with h;omega⟩)
  (λa=>⟨λz X_ s V g Q_ i k=>⟨(a2 a).1 z X_ s V g O i.1 (k.mono O),⟨G (k.5 _ O) i.2.1,G (k.5 _ O) i.2.2⟩⟩,λs V g i k=>by let⟨c,hc,f⟩:=i;exact⟨c,(a2 a).2 c s V g hc (k.mono O),⟨G (k.5 _ O) f.1,G (k.5 _ O) f.2⟩⟩⟩) ?_ λz V Q_ bx hV=>⟨h0 z V O bx<|ap.trans (hV.mono O),⟨G (hV.5 _ O) aq.1,G (hV.5 _ O) aq.2⟩⟩).mono ?_
 .rintro z d x W Q_⟨K_,f⟩ bp bm;have hy:=run_yield (P:=P) f.1 (bn z x);refine⟨_,_,_,_,hy,roundIn_of_wpIn bh<|bc _ z d x W _ O K_ bp λu q a0 bl bi bq bd=>?_⟩;have M:=f.keeps a0;refine⟨_,run_beginRound M.1 R,?_⟩;have L_:Ze (q.putObj (Z w.1+1) (.loop (KR fn e.1 j l m (Z w.1) .busy U))) (Z w.1) (KR fn e.1 j l m (Z w.1) .busy U):=M.put _;have O_:B W (q.putObj (Z w.1+1) (.loop (KR fn e.1 j l m (Z w.1) .busy U))):=v bl<|J_ _ _ _ _ O M.1 R;refine wpIn_mono (be _ z d x u _ O O ⟨_,L_.1⟩ ((M_ z).putObj _ bi O M.1 R) ((ba z).putObj _ bq O M.1 R) ((a6 z x u).putObj (s:=()) _ bd O M.1 R) bm) ?_;have R_:∀{V:Ub}(o:Obj),KeepsFrom (Z w.1) (q.putObj (Z w.1+1) (.loop (KR fn e.1 j l m (Z w.1) .busy U))) V->KeepsFrom (Z t.1) W (V.putObj (Z w.1+1) o):=λ{V} o ab=>(((a0.from _).trans (KeepsFrom.of_grownBy (grownBy_putObj' q _ _) λb0 h=>by cases h;omega)).trans (JE ab O)).trans (KeepsFrom.of_grownBy (grownBy_putObj' V _ _) λb0 h=>by cases h;omega);rintro h a3 V b;cases h with
  |normal=>
   have a:=L_.keepsF b.1;exact⟨_,_,a.fin U,.inl ⟨R,⟨(M_ z).putObj _ b.2.2 O a.1 R,a.put _⟩,v (v O_ b.2.1) (J_ _ _ _ _ O a.1 R),R_ _ b.1⟩⟩
  |ret=>
   have a:=L_.keepsF b.1;exact⟨_,_,a.fin<|S .ret,.inr ⟨R,⟨.ret,(H_ _).putObj _ b.2.2 O a.1 R,a.put _⟩,v (v O_ b.2.1) (J_ _ _ _ _ O a.1 R),R_ _ b.1⟩⟩
  |exit id=>
   have a:=L_.keepsF b.1;exact⟨_,_,a.fin<|S (.exit id),.inr ⟨R,⟨.exit id,(H_ _).putObj _ b.2.2 O a.1 R,a.put _⟩,v (v O_ b.2.1) (J_ _ _ _ _ O a.1 R),R_ _ b.1⟩⟩
  |goto T_=>
   have a:=L_.keepsF b.1;exact⟨_,_,a.fin<|S (.goto T_),.inr ⟨R,⟨.goto T_,(H_ _).putObj _ b.2.2 O a.1 R,a.put _⟩,v (v O_ b.2.1) (J_ _ _ _ _ O a.1 R),R_ _ b.1⟩⟩
  |panic ch=>exact b.elim
  |outgrown=>exact b.elim
 rintro h V⟨⟨a4,rfl⟩,(⟨z,U_,Q_,hS,K_,f⟩|⟨d,bb,c,K_,f⟩)⟩;·exact⟨U,_,run_endLoop f.1 (by simp[KR]),bf _ z U_ _ aA O hS ((M_ z).putObj _ K_ O f.1 R) (f.put _).2⟩
 exact⟨S c,_,run_endLoop f.1 (by simp[KR]),bv _ c d _ aA bb ((H_ c).putObj _ K_ O f.1 R) (f.put _).2⟩
end
theorem Bu(n k):Us n k <+: Us n 0:=by unfold Us;rw[show n-0=n by omega,aW (by simp:J (List.finRange n).reverse<=n)];exact List.take_prefix _ _
theorem ED{F:Fence}(v:F.1 154)(T:F.4=U)(Y_:1<=n)(C:N)(j:Vv)(r:Uy){a:Vr}(Z_:J a<=1000000)(L:∀b,g<=b->b<i->¬j b)(M:¬j k)(u p:List (Fin (J a))->Vy)(K:∀(d:List (Fin (J a)))(x:Fin (J a))(w:Ub),u d w->J d<J a->YieldAt F (n-1) prog m #[H ((x:N):I),mj a[x]] w λf e=>
  (f=Rt (Sb So)/\u (d++[x]) e/\Zf B j w e)\/(f=Rt (Sb Sn)/\p (d++[x]) e))(V:E w (A k 0)=S (X r (J a) C))(P:Q (YY w g i r a))(W:u [] w):
 CallsIn F n prog 154 #[.func (.yield m) #[] #[],Hn k] w λf e=>(∃U_,f=Rt U_) /\
  ((∃y,y=Us (J a) 0/\u y e)\/(∃d,(∃q,d=Us (J a) q)/\p d e)):=by
 refine iD func154 R v ?_ T;simp only[ntmps154,xY,Nat.reduceAdd,Nat.reduceSub];gi_wp2
 gi_loopw [3] (λo wr=>∃(b:N)(z:I),b<=J a/\o=H z/\z+1=(b:I)/\u (Us (J a) b) wr/\Zf B j w wr)
  (λo _=>(JB o+1).toNat)
 .exact⟨J a,_,aA,R,O,by rw[Ua];exact W,Zf.refl _⟩
 obtain⟨b,z,R_,rfl,ab,s,c⟩:=hrel;have X_:=c.cell V M;cases b with
 |zero=>
  have l:z=-1:=O;subst l;gi_wp2
  go_end0
  exact⟨⟨_,R⟩,.inl ⟨_,R,s⟩⟩
 |succ q=>
  have l:z=(q:I):=O;subst l;have hq:q<J a:=R_;let⟨A_,ac,D_,t,Q_⟩:=P q hq;subst D_;have h:=L A_ t.1 t.2;let⟨v_,q1,q2,q3,q4⟩:=Q_;have r0:=c.cell v_ h;have r1:=c.cell q1 h;have r2:=c.cell q2 h;have r3:=c.cell q3 h;have r4:=c.cell q4 h;let⟨W_,tmps,assign,body,u_,N_⟩:=K _ ⟨q,hq⟩ wr s (by rw[Vf];omega);have aa:(Instr.yield m #[H ((q:N):I),Sa #[H a[q].1,H a[q].2,H a[q].a,H a[q].b,H a[q].5]]).run prog wr=_:=u_;gi_wp2;refine N_.mono ?_;rintro f V_ (⟨rfl,I_,S_⟩|⟨rfl,K_⟩)
  .gi_wp2
   go_roundw
   .exact⟨q,_,O,R,O,by rw[TJ hq];exact I_,c.trans S_⟩
   simp[JB]
  gi_wp2;refine cC (gV R _ _ _) R ?_;exact⟨⟨_,R⟩,.inr ⟨_,⟨q,(TJ hq).symm⟩,K_⟩⟩
theorem VE(F:Fence)(e:N)(i:F.1 154)(v:F.4=U)(t:1<=e)(c:Vv){a:Vr}(u:J a<=1000000)(M:g<=m)(o:∀b,B<=b->b<g->¬c b)(q:¬c n)(P:m<=Z w.1)(j:n<Z w.1)(s:E w (A n 0)=S (X p (J a) k))(l:Q (YY w B g p a)):
 SeqStopsK F e prog 154 #[Hn n] (λx:Fin (J a)=>#[H ((x:N):I),mj a[x]]) (Zf m c) (λK=>K=Us (J a) 0) (λy=>∃z,y=Us (J a) z) (J a) w:=λT L f W d _ _ r h=>
 ED i v t k c p u o q L f r (oB d s j) (Y<|l.keepS λb _ C=>d.5 b O) h
end Go.Proofs.YtcncjgijikoapaaGreatDoor
