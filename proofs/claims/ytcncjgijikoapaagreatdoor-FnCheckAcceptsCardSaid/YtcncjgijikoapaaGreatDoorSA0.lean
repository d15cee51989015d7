import Derived.Test.YtcncjgijikoapaaGreatDoorOwn
import Derived.Laws.AppendOwnNone
import Derived.OwnWalk
import Derived.Lib.ItoaMem
import Derived.Lib.UnsafeStr
import Derived.Laws.OwnMore
import Derived.Lib.AppendZerosOnto
import Derived.Lib.Walk
import Derived.Lib.SliceRun
import Derived.Lib.TrailingZeros
import Derived.Laws.Bits64b
namespace Go.Proofs.YtcncjgijikoapaaGreatDoor
set_option maxHeartbeats 4000000
set_option maxRecDepth 100000
open _root_ renaming Array.size->Z,List.length->J,Nat->N,Option.some->S,Option.none->U,Bool.true->So,rfl->R,Int->I,Bool.false->Sn,absurd->Sz,List.range->Rg,Decidable.decide->Jd
open Go renaming World.cell?->E,World.ownsRow->Sx,World.alloc->D,Obj.cells->Sc,IntKind.i64->S6,World.setCell->Se,RowKit.Below->Sw,Ending.returned->Rt,Calls->Sk,RowKit.intOf->JB
open Value renaming slice->X,int->Si,agg->Sa,bool->Sb,tuple->St
open Go.RowKit Go.Proofs.Tryz
variable{t T:I}{n m k B g i j c:N}{w v u:Ub}{a A_:Uj}{p P:Uy}{l L:Wc}{x:Wi}{f:Wk}{y:Wo}{q:Xe}{R_:Yh}
theorem d6{p o}{d:Act}{K:Tf}{q:Yt}{r:Prop}(y:o.6=U)(s x)(t:TypeId)(B:o.2=.call { callee:=.builtin .append,args:=#[s,x],argTypes:=#[t,t] })(h)(e:TypeId)(i:TypeInfo)(z:Uj)(a bytes)(V:R_.underlying t=S (.slice e))(C:R_.info? e=S i)(F:i.8=S z)(T:i.3=a)(L:i.4=bytes)(M:Z z.cells=a)(P:0<a)(v:Uj)(n)(k:Wo)(W:d.eval s=v)(O_:Sx w h e a v n k)(j m c)(f:Wo)(X_:d.eval x=X (S j) m c)(L_:J f=m*a)(M_:∀l u,f[l]?=S u->E w (j.add l)=S u)(r_:∀u∈f,u.oneCell'=So)(D_:n+m<=maxLen)(H_:(n+m)*bytes<=140737488355328)(F_:h<=Z w.1)(q_:∀b g,Sx g h e a b (n+m) (k++f)->w.grownBy g v.ownBlock->(b=X U 0 0↔v=X U 0 0/\m=0)->(b.ownBlock=v.ownBlock\/b.ownBlock=S (Z w.1))->K (d.put o.1 b) g):
 if Region.wanted o (yielded p d.1)=So then Oper.wp R_ o d w K q else r:=by
 have W_:Region.wanted o (yielded p d.1)=So:=by simp[Region.wanted,y]
 rw[aU W_];let⟨b,g,P_,y_,A_,B_,C_⟩:=kI (P:=R_) w h t o.3 e i z a bytes V C F T L M P v n k O_ j m c f L_ M_ r_ D_ H_ F_;unfold Oper.wp execOp;simp only[B,resolve,invoke,builtin,lG,lH,jE,jN,eH,fZ,W,X_,P_];exact q_ b g y_ A_ B_ C_
theorem Xq(h:(R_.info? n).map (λi=>(i.8,i.3,i.4))=S (S a,m,k)):∃i,R_.info? n=S i/\i.8=S a/\i.3=m/\i.4=k:=by
 cases hi:R_.info? n with
 |none=>rw[hi]at h;cases h
 |some i=>
  rw[hi]at h;simp only[jY,Option.some.injEq,jC]at h;exact⟨i,R,h.1,h.2.1,h.2.2⟩
theorem Yf(w:Ub)(u:Uj)(b:N):∀j x,([u]:Wo)[j]?=S x->E (D w<|Sc #[u] b) ((⟨Z w.1,0,U⟩:Addr).add j)=S x:=λj x a=>by
 have ha:((A (Z w.1) 0):Addr).add j=(A (Z w.1) j):=by unfold Addr.add;split<;>simp_all
 rw[ha]
 match j,a with
 |0,a=>simpa using a
 |j+1,a=>cases a
def Ng(a:Wy):Wo:=a.flatMap λm=>[Si S6 m.1,Si S6 m.2]
theorem xO{m}{a:Wy}:Ng (m::a)=[H m.1,H m.2]++Ng a:=R
theorem nf{a b}:Ng (a++b)=Ng a++Ng b:=by simp[Ng]
theorem yh:∀a:Wy,J (Ng a)=J a*2
 |[]=>R
 |m::a=>by rw[xO,aQ,yh a];simp;omega
theorem rX:∀(a:Wy)(i:N)(h:i<J a),(Ng a)[i*2]?=S (H a[i].1)/\(Ng a)[i*2+1]?=S (H a[i].2)
 |[],i,h=>Sz h sP
 |m::a,0,_=>⟨R,R⟩
 |m::a,i+1,h=>by have:=rX a i SI;rw[xO];rw[show(i+1)*2=i*2+1+1 by omega];simpa using this
theorem ja:((A n 0):Addr).add m=(A n m):=by unfold Addr.add;split<;>simp_all
theorem Jj(h:Sx w n m k (Hl B g c) g y){u:Uj}(a:y[j]?=S u):E w (A B j)=S u:=by have:=h.cells (g:=B) R j u a;rw[ja]at this;exact this
theorem ol(h:Sx w n m k (Hl B g c) g y)(o):w.frozen? (A B o)=Sn:=by
 obtain⟨e2,_⟩|⟨g',cap,cur,e2,_,hh,_⟩:=h.2;·cases e2
 injection e2 with e3;injection e3 with e3;injection e3 with e4;subst e4;simp[World.frozen?,hh]
theorem Vc(h:Sx w n m k a B y):(a=X U 0 0/\B=0/\y=[])\/∃g c,a=X (S ⟨g,0,U⟩) B c/\(n<=g/\g<Z w.1)/\B<=c:=by
 obtain⟨e1,e2⟩|⟨g,cap,cur,e1,hb,hh,hc,_⟩:=h.2
 .refine bC ⟨e1,e2,iE ?_⟩;rw[h.1,e2,lC]
 exact aZ ⟨g,cap,e1,⟨hb,(aS.1 hh).1⟩,hc⟩
theorem m9{b}(h:Sx w n m 2 a k (Ng b)):∃e c,a=X e (J b) c/\k=J b/\J b<=c/\gj w n (Z w.1) e b:=by
 have f:=h.1;rw[yh]at f;have j:k=J b:=O;subst j;obtain⟨rfl,h0,_⟩|⟨g,c,rfl,hg,hc⟩:=Vc h
 .have:b=[]:=iE h0;subst this;exact⟨U,0,R,R,aA,λi d=>Sz d sP⟩
 refine⟨_,c,R,R,hc,λi d=>⟨g,0,R,hg,?_,?_⟩⟩;·rw[aV];exact Jj h (rX b i d).1
 rw[aV];exact Jj h (rX b i d).2
theorem RA:(prog.info? 186).map (λi=>(i.8,i.3,i.4))=S (S<|Sa #[H 0,H 0],2,16):=vZ
theorem TW(h:Sx w n m k a g y)(b:w.grownBy v (S B))(c:B<n):Sx v n m k a g y :=
 h.kept b (by
  cases e:a.ownBlock with
  |none=>exact bC R
  |some d=>exact aZ λe2=>by cases e2;have:=(h.lt _ e).1;omega)
theorem pj(h:Sx w n m k (Hl B g c) g y)(j:v.1[B]?=w.1[B]?):Sx v n m k (Hl B g c) g y:=by
 obtain⟨a,h|⟨o,l,b,e,f,i,d⟩⟩:=h;·exact⟨a,bC h⟩
 cases e;exact⟨a,aZ ⟨B,c,b,R,f,G j i,d⟩⟩
theorem qO(h:Sx w n m k (X (S ⟨B,0,U⟩) g c) g y)(u:Uj):Sx (Se w ⟨B,i,U⟩ u) n m k (X (S ⟨B,0,U⟩) g c) g (y.set i u):=by
 obtain⟨l,b|⟨s,r,a,e,f,j,d,o,p,q⟩⟩:=h;·cases b.1
 cases e;refine⟨by rw[bL];exact l,aZ ⟨B,c,a.setIfInBounds i u,R,f,?_,d,o,by rw[jS];exact p,?_⟩⟩;·exact heap_setCell_same w B i a m u j
 rw[Array.toList_setIfInBounds,List.take_set,q]
theorem Xm(h:Sx w n m k a B y)(b:0<B):∃g c,a=X (S ⟨g,0,U⟩) B c/\(n<=g/\g<Z w.1)/\B<=c:=by
 obtain⟨_,m,_⟩|h:=Vc h;·omega
 exact h
theorem Zv(h:0<=t):∃m:N,t=m:=⟨t.toNat,O⟩
section
variable {P:Program}{w:World}{ops:Array Oper}{o:Oper}{a:Act}{K:Act->World->Prop}{Q_:Exit->Act->World->Prop}{E_:Prop}{s x:Operand}{t e base size bytes n m c g:N}{z v:Value}{xs news:List Value}{ad:Addr}{f:N×N}
theorem YD(b:(P.info? e).map (λi=>(i.8,i.3,i.4))=S (S z,size,bytes))(hown:Sx w base e size v n xs)(hn:∀j u,news[j]?=S u->E w (ad.add j)=S u)(h1:∀u∈news,u.oneCell'=So)(h:Q (∀v' w',Sx w' base e size v' (n+m) (xs++news)->w.grownBy w' v.ownBlock->(v'=X U 0 0↔v=X U 0 0/\m=0)->(v'.ownBlock=v.ownBlock\/v'.ownBlock=S (Z w.heap))->K (a.put o.dst v') w'))(hg:o.guard=U:=by rfl)(ho:o.op=.call {callee:=.builtin .append,args:=#[s,x],argTypes:=#[t,t]}:=by exact rfl)(es:a.eval s=v:=by first|exact rfl|simp[Act.eval])(ex:a.eval x=X (S ad) m c:=by first|exact rfl|simp[Act.eval])(hl:J news=m*size:=by rfl)(hb:(n+m)*bytes<=140737488355328:=by first|omega|(dsimp only;omega))(hs:base<=Z w.heap:=by first|omega|(simp;omega)|simp)(ht:P.underlying t=S (.slice e):=by kernel_rfl)(hz:Z z.cells=size:=by rfl)(hp:0<size/\0<bytes:=by decide):if Region.wanted o (yielded ops a.tmps)=So then Oper.wp P o a w K Q_ else E_:=by
 obtain⟨i,i1,i2,i3,i4⟩:=fX b
 have k:n+m<=maxLen:=by
  have:=Nat.le_mul_of_pos_right (n+m) hp.2;unfold maxLen;omega
 exact d6 hg s x t ho base e i z size bytes ht i1 i2 i3 i4 hz hp.1 v n xs es hown ad m c news ex hl hn h1 k hb hs h
theorem YI(b:(P.info? e).map (λi=>(i.8,i.3,i.4))=S (S z,size,bytes))(hown:Sx w base e size v n xs)(h:Q (∀v' w',Sx w' base e size v' (n+1) (xs++news)->(D w (Sc news.toArray m f)).grownBy w' v.ownBlock->(v'=X U 0 0↔v=X U 0 0/\1=0)->(v'.ownBlock=v.ownBlock\/v'.ownBlock=S (Z (D w (Sc news.toArray m f)).heap))->K (a.put o.dst v') w'))(hb:(n+1)*bytes<=140737488355328:=by first|omega|(dsimp only;omega))(hs:base<=Z w.heap:=by first|omega|(simp;omega)|simp)(hl:J news=1*size:=by rfl)(hg:o.guard=U:=by rfl)(ho:o.op=.call {callee:=.builtin .append,args:=#[s,x],argTypes:=#[t,t]}:=by exact rfl)(es:a.eval s=v:=by first|exact rfl|simp[Act.eval])(ex:a.eval x=X (S ⟨g,0,U⟩) 1 1:=by first|exact rfl|simp[Act.eval])(eg:g=Z w.heap:=by first|rfl|simp)(h1:(news.all λu=>u.oneCell')=So:=by rfl)(ht:P.underlying t=S (.slice e):=by kernel_rfl)(hz:Z z.cells=size:=by rfl)(hp:0<size/\0<bytes:=by decide):if Region.wanted o (yielded ops a.tmps)=So then Oper.wp P o a (D w (Sc news.toArray m f)) K Q_ else E_:=by
 subst eg;exact YD b (hown.alloc _) (XE (l9 _ _)) (List.all_eq_true.1 h1) h hg ho es ex hl hb (by simp;omega) ht hz hp
end
section
attribute [local go_sem ↓] Go.wp_at_zero Go.wp_at_succ
def ZP(a:Vr):Wo:=a.flatMap λx=>[Si S6 x.1,Si S6 x.2,Si S6 x.a,Si S6 x.b,Si S6 x.5]
theorem rM{x}{a:Vr}:ZP (x::a)=[H x.1,H x.2,H x.a,H x.b,H x.5]++ZP a:=R
theorem j7(a b):ZP (a++b)=ZP a++ZP b:=by simp[ZP]
theorem iR:∀a:Vr,J (ZP a)=J a*5
 |[]=>R
 |x::a=>by rw[rM,aQ,iR a];simp;omega
theorem l7:∀(b:Vr),∀u∈ZP b,u.oneCell'=So:=λb u c=>by let⟨x,_,a⟩:=bV.1 c;simp at a;obtain rfl|rfl|rfl|rfl|rfl:=a<;>rfl
theorem RB:(prog.info? 64).map (λi=>(i.8,i.3,i.4))=S (S<|Sa #[H 0,H 0,H 0,H 0,H 0],5,40):=vZ
theorem m7(w:Ub):Sx (D w<|Sc #[] 64) (Z w.1) 64 5 (X (S ⟨Z w.1,0,U⟩) 0 0) 0 (ZP []):=by have:=eI (base:=Z w.1) (e:=64) (size:=5) w #[] 0 sP sP R;simpa [ZP]using this
theorem Ip{a}(h:b9 a)(c:n<J a)(d:m<J a)(e:a[n].1=a[m].1):n=m:=by
 have g:(a.map (·.1)).Pairwise (·≠·):=h.1;have f:=gY.1 g;obtain b|b|b:=mA n m;·exact(f n m SK (by simpa using d) b (by simp[e])).elim
 .exact b
 exact(f m n (by simpa using d) SK b (by simp[e])).elim
theorem yt{a}(h:b9 a)(b:n<J a):pz a a[n].1=a[n].2:=by
 unfold pz;have:a.find? (λm=>m.1==a[n].1)=S a[n]:=by
  rw[List.find?_eq_some_iff_getElem];refine⟨sP,n,b,R,λj c=>?_⟩;have:a[j].1≠a[n].1:=λe=>by have:=Ip h O b e;omega
  simpa using this
 rw[this];rfl
end
structure Gr(w w':Ub)(u v:Uj):Prop where
 grown:w.grownBy w' u.ownBlock
 own:∀g,v.ownBlock=S g->Z w.1<=g\/u.ownBlock=S g
theorem Gr.refl(w u):Gr w w u u:=⟨⟨R,R,R,aA,λ_ _ _=>R⟩,λ_ h=>aZ h⟩
theorem Gr.below(h:Gr w v a A_)(e:Sx w n m k a B y)(c:Sw n u w)(b:n<=Z w.1):Sw n u v :=
 c.grown h.1 b λf d=>(e.lt f d).1
theorem BE:(l++[t]).map (Si S6)=l.map (Si S6)++[H t]:=sP
theorem Wj{a p}:XG (a++[p])=XG a++[p.1]:=by simp[XG]
theorem Vx{a p}:XI (a++[p])=XI a++(if dB p.1 then [p.2]else []):=by simp only[XI,eU,bG];congr 1;cases h:dB p.1<;>simp[h]
theorem U0:BX (x++[q])=BX x++Z6 q:=by simp[BX]
theorem TP(a):J (XI a)<=J a:=by simp only[XI,bK];exact fJ _ _
theorem KP(a):J (BX a)<=Xx a:=by
 induction a with
 |nil=>simp[BX]
 |cons x a e=>
  have b:BX (x::a)=Z6 x++BX a:=by simp[BX]
  have c:Xx (x::a)=ZZ x+Xx a:=by simp[Xx]
  have d:J (Z6 x)<=ZZ x:=by simp only[Z6,XG,aQ,bK,ZZ];have:=TP x.2;omega
  rw[b,c,aQ];omega
theorem uZ{wr:Ub}(g:Sw (Z w.1) w wr)(f:Z w.1<Z wr.1)(e:E wr ⟨Z w.1,1,U⟩=S (X p m c))(o)(d:Sx wr (Z w.1+1) 2 1 a n y)(b:(D wr o).grownBy v a.ownBlock):
 Sw (Z w.1) w v/\Z w.1<Z v.1/\E v ⟨Z w.1,1,U⟩=S (X p m c)/\Z wr.1<=Z v.1:=by
 have h:=b.4;simp at h;refine⟨Xy (Xb g _) b (d.alloc _) O SB,O,?_,O⟩;exact G (Xc<|YJ b (d.alloc _) (b:=Z w.1) O SB) (oB (Xb (dC (Z wr.1) wr) _) e f)
theorem BU(ha:Q (Xp w m k p x))(V_:Q (n=J x))(hn:n<=1048576)(hs:Q (Xx x<=1048576))(hB:k<=Z w.1):
 Sk prog 87 #[Sa #[H t,X p n c]] w λo M=>∃M_ c',o=Rt (X M_ (J (BX x)) c')/\Sw (Z w.1) w M/\Xf M (Z w.1) (Z M.1) M_ (BX x):=by
 go_in
 go_wp2
 go_loopw [3,4] (λu i wr=>∃a:N,a<=n/\i=H a/\Sw (Z w.1) w wr/\Z w.1<Z wr.1/\E wr (A (Z w.1) 1)=S (X p n c)/\Sx wr (Z w.1+1) 2 1 u (J (BX<|x.take a)) ((BX<|x.take a).map (Si S6))) λ_ i _=>n-(JB i).toNat
 .exact⟨0,aN,R,Xb (Xb Rf _) _,SB,sP,K5 _ _⟩
 obtain⟨a,hk,rfl,U_,al,ad,C⟩:=hrel;by_cases ar:a<n;rotate_left
 .go_wp2;go_ret;have o:=aW (l:=x) (i:=a) (oN V_.o);rw[o]at C;obtain⟨a1,c1,rfl,af⟩:=Xk C;exact⟨_,_,R,U_,af.mono O<|aA⟩
 have P:a<J x:=oN V_.o
 obtain⟨N_,ab,rfl,⟨_,ao⟩,Q_⟩:=ha a P;have L_:=Y Q_;have aj:Q (BX (x.take<|a+1)=BX (x.take a)++(XG x[a].1++XI x[a].2)):=by show _=_;rw[X7 P,U0];rfl
 have ap:J (BX<|x.take a)+(J x[a].1+JG x[a].1+J x[a].2)<=1048576:=by have h1:=UX x<|a+1;rw[X7 P,Vm]at h1;have h2:=KP<|x.take a;have r:=hs.o;have h4:ZZ x[a]=J x[a].1+JG x[a].1+J x[a].2:=R;omega
 have az:J x[a].1<=1048576:=O;have aq:J x[a].2<=1048576:=O;have HO:=Y C;clear C Q_;generalize hX:x[a]=e at*;clear hX;generalize BX (x.take a)=K at*;let⟨pa,pc,ia,ic,O_,e1,_,T_,R_⟩:=L_.o;have HP:=Y T_;have HI:=Y R_;have E0:=Y O_;have K_:=Y e1;clear O_ e1 T_ R_ L_;go_wp2
 go_loopw [3,5] (λu i g=>∃j:N,j<=J e.1/\i=H j/\Sw (Z w.1) w g/\Z w.1<Z g.1/\E g (A (Z w.1) 1)=S (Hm N_ ab n c)/\Sx g (Z w.1+1) 2 1 u (J (K++XG (e.1.take j))) ((K++XG (e.1.take j)).map (Si S6))) λ_ i _=>J e.1-(JB i).toNat
 .exact⟨0,aN,R,U_,al,ad,by simpa [XG]using HO.o⟩
 obtain⟨j,e_,rfl,b,l,h,f⟩:=hrel;have f0:=G (XU b O) E0;have f1:=G (XU b O) K_;by_cases s:j<J e.1
 .obtain⟨b',o',rfl,⟨_,ac⟩,aa,cc,q,L,_⟩:=HP j s;have e2:=G (XU b O) q;have r:Q (K++XG (e.1.take<|j+1)=(K++XG (e.1.take j))++[e.1[j].1]):=by show _=_;rw[X7 s,Wj,cK]
  have hl:J (K++XG (e.1.take j))<=1048576:=by simp[XG];omega
  clear q L;generalize e.1[j]=P_ at*;generalize K++XG (e.1.take j)=D1 at*;have d:=Y f;clear f f1;go_wp2_with (at_builtin;refine YC RH d ?_)
  intro v1 w1 v T _ _;have F:=Y v;clear v;go_wp2;let⟨q1,q2,q3,_⟩:=uZ b l h _ d T;exact⟨⟨j+1,O,gM,q1,q2,q3,by rw[r.o,Yl];simpa using F.o⟩,SA⟩
 have B:=Y<|aW (l:=e.1) (i:=j) O;have d:=Y f;clear f;go_wp2
 go_loopw [3,6] (λu i g=>∃j:N,j<=J e.2/\i=H j/\Sw (Z w.1) w g/\Z w.1<Z g.1/\E g (A (Z w.1) 1)=S (Hm N_ ab n c)/\Sx g (Z w.1+1) 2 1 u (J (K++XG e.1++XI (e.2.take j))) ((K++XG e.1++XI (e.2.take j)).map (Si S6))) λ_ i _=>J e.2-(JB i).toNat
 .exact⟨0,aN,R,b,l,h,by have:=d.o;rw[B.o]at this;simpa [XI]using this⟩
 clear b l h f0 f1 d B;obtain⟨j,e_,rfl,b,l,h,f⟩:=hrel;have f1:=G (XU b O) K_;by_cases s:j<J e.2
 .obtain⟨b',o',rfl,⟨_,ac⟩,q,L,_,_,_⟩:=HI j s;have e2:=G (XU b O) q;have e3:=G (XU b O) L;have r:Q (K++XG e.1++XI (e.2.take<|j+1)=(K++XG e.1++XI (e.2.take j))++(if dB e.2[j].1 then [e.2[j].2]else [])):=by show _=_;rw[X7 s,Vx,<-cK]
  have hl:J (K++XG e.1++XI (e.2.take j))<=1048576:=by have:=TP<|e.2.take j;simp[XG]at this |-;omega
  clear q L;generalize e.2[j]=P_ at*;generalize K++XG e.1++XI (e.2.take j)=D1 at*;have d:=Y f;clear f;cases hd:dB P_.1
  .have V:=Y hd;go_wp2_with (go_at_call 64;refine YU (nZ _ _) λW z=>?_;rw[z];clear z W)
   exact⟨⟨j+1,O,gM,b,l,h,by rw[r.o,V.o];simpa using d.o⟩,SA⟩
  have V:=Y hd;go_wp2_with (first|(go_at_call 64;refine YU (nZ _ _) λW z=>?_;rw[z];clear z W)|(at_builtin;refine YC RH d ?_))
  intro v1 w1 v T _ _;have F:=Y v;clear v;go_wp2;let⟨q1,q2,q3,_⟩:=uZ b l h _ d T;exact⟨⟨j+1,O,gM,q1,q2,q3,by rw[r.o,V.o,aU R,Yl];simpa using F.o⟩,SA⟩
 have B:=Y<|aW (l:=e.2) (i:=j) O;have d:=Y f;clear f;go_wp2;exact⟨⟨a+1,O,gM,b,l,h,by have:=d.o;rw[B.o]at this;rw[aj.o,<-cK];exact this⟩,SA⟩
theorem Um{P:Yh}(d)(t j e:TypeId)(i:TypeInfo)(h)(b:P.underlying t=S (.slice e))(a:P.info? e=S i)(v:Uj)(n c)(k:Wo)(f:Sx w d e h v n k):
 (Builtin.append_ #[t,t] j #[v,X U 0 c]).run P w=.ok v w:=by
 obtain⟨rfl,rfl⟩|⟨g,cap,cur,rfl,_,_,hnc,_⟩:=f.2;·simp[Builtin.append_,run_underlying b,sizeOf,typeInfo,a,Builtin.lenOf,Builtin.firstCells]
 simp[Builtin.append_,run_underlying b,sizeOf,typeInfo,a,Builtin.lenOf,Builtin.firstCells,hnc,storeCells]
theorem Cj{b}(f:Xf w n m (S b) l):∀j u,(l.map<|Si S6)[j]?=S u->E w (b.add j)=S u:=by
 intro j u a;have c:j<J l:=by
  obtain h|h:=mL j (J l);·exact h
  rw[dK<|by simpa using h]at a;cases a
 obtain⟨g,o,e,-,d⟩:=f j c;cases e;rw[dX,aC c]at a;cases a;rw[mK];exact d
theorem JD{o:Oper}{k:Act}{K:Tf}{M:Yt}(C x:Operand)(t:TypeId)(u:o.2=.call { callee:=.builtin .append,args:=#[C,x],argTypes:=#[t,t] })(g:N)(e:TypeId)(i:TypeInfo)(z:R_.underlying t=S (.slice e))(r:R_.info? e=S i)(P:i.8=S (H 0))(T:i.3=1)(V:i.4=8)(v:Uj)(b:Wc)(y:k.eval C=v)(p:Sx w g e 1 v (J b) (b.map<|Si S6))(s:v≠Hq)(f:Uy)(m c:N)(a:Wc)(L W:N)(B:k.eval x=X f m c)(n:m=J a)(F:Xf w L W f a)(U_:J b+m<=1000000000000)(I_:g<=Z w.1)(q:∀d j,Sx j g e 1 d (J (b++a)) ((b++a).map (Si S6))->Gr w j v d->d≠Hq->K (k.put o.1 d) j):
 o.wp R_ k w K M:=by
 cases f with
 |none=>
  have H_:a=[]:=by
   cases a with
   |nil=>rfl
   |cons x V_=>let⟨_,_,e,_⟩:=F 0 sP;cases e
  subst H_;subst n;have N_:=Um (P:=R_) (w:=w) g t o.3 e i 1 z r v (J b) c _ p;unfold Oper.wp execOp;simp only[u,resolve,invoke,builtin,lG,lH,jE,jN,eH,fZ,y,B,bO,N_];exact q v w (by simpa using p) (Gr.refl _ _) s
 |some f=>
  let⟨d,j,M_,E_,F_,G_,h⟩:=kI (P:=R_) w g t o.3 e i (H 0) 1 8 z r P T V R vY v (J b) _ p f m c (a.map<|Si S6) (by simp[n]) (Cj F) (by intro W_ P_;obtain⟨X_,-,rfl⟩:=aY.1 P_;rfl) SD O I_;unfold Oper.wp execOp;simp only[u,resolve,invoke,builtin,lG,lH,jE,jN,eH,fZ,y,B,M_];refine q d j (by rw[aQ,bG,<-n];exact E_) ⟨F_,λT_ l=>?_⟩ λe=>s (G_.1 e).1;obtain h|h:=h;·exact aZ (h▸l)
  rw[h]at l;cases l;exact bC<|aA
def oe(L a:Wc)(i:N):Prop:=J a=J L/\∀k (h:k<J L),a[k]?=S (if k<i\/J L<=k+i then L[J L-1-k]else L[k])
theorem DR(L):oe L L 0:=⟨R,λk h=>by rw[aM O,aC h]⟩
theorem Dw(h:oe l L n)(b:J l<=2*n+1):L=l.reverse:=by
 refine iG λk=>?_;by_cases a:k<J l
 .rw[h.2 k a,List.getElem?_reverse a,aC O];split;·rfl
  have e:J l-1-k=k:=O;simp only[e]
 rw[dK (by rw[h.1];omega),dK<|by rw[jQ];omega]
theorem DC(h:oe l L n)(d:2*n+1<J l)(a:n<J L)(b:J l-1-n<J L):oe l ((L.set n L[J l-1-n]).set (J l-1-n) L[n]) (n+1):=by
 refine⟨by rw[bL,bL];exact h.1,λk c=>?_⟩;have e1:=h.2 n O;have e2:=h.2 (J l-1-n) O;rw[aC a,aM O]at e1;rw[aC b,aM O]at e2;injection e1 with e1;injection e2 with e2;rw[kG,bL];by_cases c1:J l-1-n=k
 .subst c1;rw[aU R,aU b,aU O,e1];have e:J l-1-(J l-1-n)=n:=O;simp only[e]
 rw[aM c1,kG];by_cases c2:n=k
 .subst c2;rw[aU R,aU a,aU O,e2]
 rw[aM c2,h.2 k c];by_cases c3:k<n\/J l<=k+n;·rw[aU c3,aU O]
 rw[aM c3,aM O]
theorem TM(W:m<=1000000)(t:Q (m=J l))(K:Q (Sx w k 2 1 (Hl n m c) m (l.map<|Si S6))):
 Sk prog 141 #[Hl n m c] w λe x=>e=Rt (St #[])/\w.grownBy x (S n)/\Sx x k 2 1 (Hl n m c) m (l.reverse.map<|Si S6):=by
 go_in
 go_wp2
 go_loopw [2,3] (λu v wr=>∃(i:N)(a:Wc),u=H i/\v=H ((m:I)-1-i)/\2*i<=m/\Q (oe l a i)/\Q (w.grownBy wr<|S n)/\Q (Sx wr k 2 1 (Hl n m c) m (a.map<|Si S6))) λu _ _=>m-(JB u).toNat
 .exact⟨0,l,R,gM,O,Y<|DR l,Y ⟨R,R,R,aA,λ_ _ _=>R⟩,K⟩
 obtain⟨i,a,rfl,rfl,J_,d,h,b⟩:=hrel;by_cases N_:2*i+1<m
 .have C:=t.o;have M:=d.1;let⟨j,f⟩:∃j:N,(m:I)-1-i=j:=⟨m-1-i,O⟩;have g:j=J l-1-i:=O;have q:i<J a:=O;have P:J l-1-i<J a:=O;have B:j<J a:=O;have p:=Y<|DC d O q P;have e1:=Jj b (j:=i) (u:=H a[i]) (by simp[q]);have e2:=Jj b (j:=j) (u:=H a[j]) (by simp[B]);have P_:=ol b;have o:Q (a[J l-1-i]=a[j]):=Y (by simp only[g]);rw[o.o,<-g]at p;have K_:i<j:=O;have M_:j<m:=O;have L:i<m:=O;have r:(j:I)-1=(m:I)-1-(i+1:N):=O;have z:=Y r;have I_:∀v,E (Se wr (A n i) v) (A n j)=S (H a[j]):=λv=>G (XL _ _ O _) e2;clear C M g r o;rw[f];generalize a[i]=T at*;generalize a[j]=V at*;go_wp2;go_region;go_wp2;have F:wr.grownBy (Se (Se wr (A n i) (H V)) (A n j) (H T)).drew (S n):=⟨R,R,R,by simp[World.setCell,World.drew],λQ_ _ s=>G (cY λe=>s<|by rw[e]) (cY λe=>s<|by rw[e])⟩;refine⟨⟨i+1,_,gM,by rw[z.o],O,p,Y (h.andThen F λj f=>by cases f;exact aZ R),Y ?_⟩,SA⟩;rw[mN,mN];exact qO (qO b _) _
 have y:=Y<|Dw d (oN t.o);go_wp2
 go_end0
 exact⟨R,h,by rw[<-y.o];exact b⟩
theorem Aq(t:Q (Xf w B g (S ⟨n,m,U⟩) l))(u:Q (k=J l))(C:k<=1000000000)(r:g<=Z w.1):
 Sk prog 140 #[Hm n m k c] w λq i=>∃v,q=Rt v/\Sw (Z w.1) w i/\v≠Hq/\Sx i (Z w.1) 2 1 v (J l) (l.map<|Si S6):=by
 let⟨F,s,x,y,z⟩:=fX RH;have M:∀(w:Ub)(a:Uy)(k c d b:N),(binOp .eql 26 (X a k c) (X U d b)).run prog w=.ok (Sb a.isNone) w:=λw a k c d b=>Lib.run_eql_slice_nil w _ _ a k c d b underlying26
 go_in
 go_wp2_with (at_builtin;refine nG R λK hK=>JD _ _ 26 R (Z w.1) 2 F underlying26 s x y z (Hl (Z w.1) 0 0) [] R (by simpa using World.ownsRow_lit (base:=Z w.1) (e:=2) (size:=1) w #[] 0 sP sP R) sP (S ⟨n,m,U⟩) k c l B g R u (t.keep<|(Xb (dC (Z w.1) w) _).mono r) SB sP ?_)
 intro v1 P h e f;have j:=Y (e.below (by simpa using World.ownsRow_lit (base:=Z w.1) (e:=2) (size:=1) w #[] 0 sP sP R:(w.alloc<|Sc #[] 2).ownsRow w.heap.size 2 1 (Hl w.heap.size 0 0) 0 []) (Xb Rf _) sP);have p:=Y h;have o:=Y f;refine hK _ _ ?_;go_wp2;go_ret;exact⟨_,R,j,o,p⟩
def vL(a b:Ub):Prop:=a=b
theorem Bb(n:N)(w:Ub)(o:n<=1000000):
 Sk prog 155 #[Hq,H n] w λi f=>∃v,i=Rt v/\Sw (Z w.1) w f/\(0<n->v≠Hq)/\Sx f (Z w.1) 2 1 v 0 []:=by
 let⟨e,l,m,p,d⟩:=fX RH;by_cases j:n=0
 .subst j
  go_in
  go_wp2;go_ret;exact⟨_,R,Rf,λh=>Sz h O,dA⟩
 have c:∀b,(Builtin.append_ #[26,3] b #[Hq,H n]).run prog w =
  .ok (Hl (Z w.1) (0+n) (grownCap w (0+n) 0 2)) (D w.drew<|Sc (([]:Wo).toArray++Builtin.zeroCells (H 0).cells n++Builtin.zeroCells (H 0).cells (grownCap w (0+n) 0 2 - (0+n))) 2):=λb=>
  Lib.run_append_grow_zeros w 26 3 b 2 e (H 0) S6 S6 underlying26 underlying3 l m U 0 0 [] (run_firstCells_none w.drew e.3 0 0 0) n O O O O (by rw[d];omega) (by rw[d];exact growslice_fits O O)
 have k:0+n<=grownCap w (0+n) 0 2:=grownCap_ge w _ _ _;have a:=grownCap_le_maxLen w (0+n) 0 2 SD;rw[aV]at c k a;have g:Q (∀W:Ub,Sx (D W<|Sc (([]:Wo).toArray++Builtin.zeroCells (H 0).cells n++Builtin.zeroCells (H 0).cells (grownCap w n 0 2 - n)) 2) (Z W.1) 2 1 (Hl (Z W.1) 0<|grownCap w n 0 2) 0 []):=Y (λW=>World.ownsRow_made W _ _ aA a (by simp[size_zeroCells,Value.cells];omega));generalize ([]:Wo).toArray++Builtin.zeroCells (H 0).cells n++Builtin.zeroCells (H 0).cells (grownCap w n 0 2 - n)=cells at*;generalize grownCap w n 0 2=q at*;unfold maxLen at a
 go_in
 go_wp2_with (at_builtin;refine Lib.wpList_append_run _ R _ _ _ _ R _ _ R R _ _ (c _) ?_)
 all_goals (go_ret;exact⟨_,R,Xb (Rf).drew _,λ_ h=>(by cases h),g w.drew⟩)
theorem Wb{c1 c2}(T_:Q (Xf w B g p l))(U_:Q (Xf w i j P L))(e1:Q (m=J l))(e2:Q (k=J L))(aa:m<=1000)(ab:k<=1000)(Y_:0<m+k)(V_:g<=Z w.1)(W_:j<=Z w.1)(t:E w (A n 0)=S (X p m c1))(q1:E w (A n 1)=S (X P k c2)):
 Sk prog 142 #[Hl n 2 2] w λx z=>∃v,x=Rt v/\Sw (Z w.1) w z/\Sx z (Z w.1) 2 1 v (J (l++L)) ((l++L).map (Si S6)):=by
 obtain⟨K,M,T,F,V⟩:=fX RH;have M_:=Y<|Bb (m+k) w O
 go_in
 go_wp2
 go_loopw [3,11] (λs u wr=>vL wr w/\((s=H 0/\u=H 0)\/(s=H m/\u=H 1)\/(s=H ((m+k:N):I)/\u=H 2))) λ_ u _=>2-(JB u).toNat
 .exact⟨R,bC ⟨R,R⟩⟩
 obtain⟨q,r⟩:=hrel;unfold vL at q;have X_:=q.symm;subst X_;clear q;obtain⟨rfl,rfl⟩|⟨rfl,rfl⟩|⟨rfl,rfl⟩:=r
 .go_wp2;exact⟨⟨R,aZ<|bC ⟨R,R⟩⟩,SL⟩
 .go_wp2;exact⟨⟨R,aZ<|aZ ⟨gM,R⟩⟩,SL⟩
 go_wp2_with fail
 refine M_.mono ?_;rintro x w1⟨v,rfl,y,C,W⟩;have K_:=Y y;have R_:=Y W;have Q_:=Y<|C Y_;have z_:n<Z w.1:=aI _ _ t;clear y W C;go_wp2
 go_loopw [6,27] (λv u e=>Q (Sw (Z w.1) w e)/\Q (v≠Hq)/\((u=H 0/\Q (Sx e (Z w.1) 2 1 v (J ([]:Wc)) (([]:Wc).map (Si S6))))\/(u=H 1/\Q (Sx e (Z w.1) 2 1 v (J l)<|l.map (Si S6)))\/(u=H 2/\Q (Sx e (Z w.1) 2 1 v (J (l++L)) ((l++L).map (Si S6)))))) λ_ u _=>2-(JB u).toNat
 .exact⟨K_,Q_,bC ⟨R,R_⟩⟩
 obtain⟨a,t_,r⟩:=hrel;have aj:=oB a t z_;have al:=oB a q1 z_;have af:=a.4;have ac:J l<=1000:=oN e1.o;have ad:J L<=1000:=oN e2.o;obtain⟨rfl,HOq⟩|⟨rfl,HOq⟩|⟨rfl,HOq⟩:=r
 .have N_:=Y<|T_.keep (a.mono V_);go_wp2_with (at_builtin;refine nG R λS_ hK=>JD _ _ 26 R (Z w.1) 2 K underlying26 M T F V _ [] R HOq t_ p m c1 l B g R e1 N_ SB O ?_)
  intro v2 Z_ d b c;have f:=Y<|b.below HOq a O;have o:=Y d;have h:=Y c;clear d b c;refine hK _ _ ?_;go_wp2;exact⟨⟨f,h,aZ<|bC ⟨R,o⟩⟩,SL⟩
 .have O_:=Y<|U_.keep (a.mono W_);go_wp2_with (at_builtin;refine nG R λS_ hK=>JD _ _ 26 R (Z w.1) 2 K underlying26 M T F V _ l R HOq t_ P k c2 L i j R e2 O_ O O ?_)
  intro v2 Z_ d b c;have f:=Y<|b.below HOq a O;have o:=Y d;have h:=Y c;clear d b c;refine hK _ _ ?_;go_wp2;exact⟨⟨f,h,aZ<|aZ ⟨R,Y<|by rw[aQ,bG];exact o⟩⟩,SL⟩
 go_wp2;go_ret;exact⟨_,R,a,HOq⟩
def N5(w:Ub)(a m:N)(b:Wc):Prop:=∃f,w.rowIs a 2 m f/\∀i,i<m->f i=Si S6 (F5 b i:N)
theorem N5.below(h:N5 w n m l)(k:Sw (Z w.1) w v):N5 v n m l:=by let⟨f,a,b⟩:=h;exact⟨f,a.of_block<|k.5 _ a.lt,b⟩
theorem N5.lt(h:N5 w n m l):n<Z w.1:=by let⟨f,a,_⟩:=h;exact a.lt
theorem N5.cell(h:N5 w n m l)(b:k<m):E w (A n k)=S (H (F5 l k:N))/\w.frozen? (A n k)=Sn:=by let⟨f,a,c⟩:=h;exact⟨by rw[a.cell b,c k b],a.frozen k⟩
theorem AN:F5 (l++[t]) T=F5 l T+if t=T then 1 else 0:=by simp only[F5,eU,aQ];by_cases h:t=T<;>simp[h]
theorem WZ(a v):F5 a v<=J a:=fJ _ _
theorem N5.step(h:N5 w n m l)(d:t=((F5 l k:N):I)+1):N5 (Se w ⟨n,k,U⟩ (Si S6 t)) n m (l++[(k:I)]):=by
 let⟨f,a,b⟩:=h;refine⟨_,a.set k _,λi c=>?_⟩;rw[AN];by_cases e:i=k
 .subst e;simp[d]
 have e2:¬(k:I)=(i:I):=O;simp only[e,fD,e2,fW];exact b i c
theorem N5.born(w:Ub)(m):N5 (D w<|Sc (madeCells #[Si S6 0] m) 2) (Z w.1) m []:=⟨_,dG _ _ _ _,λi _=>by simp[F5]⟩
def wU(a:Wi)(m:N):Prop:=∀x∈a,(∀p∈x.1,0<=p.1/\p.1<(m:I))/\∀y∈x.2,1<=y.1/\y.1<=10/\(dB y.1=So->0<=y.2/\y.2<(m:I))
theorem WE(ha:Q (Xp w k B p x))(hx:Q (m=J x))(hn:m<=1048576)(hm:n<=2000)(hs:Q (Xx x<=1048576))(hB:B<=Z w.1)(hT:Q (Uw w))(hd:Q (wU x n)):
 Sk prog 98 #[Sa #[H n,X p m c]] w λz w'=>z=Rt (Sb (JM ⟨n,x⟩))/\Sw (Z w.1) w w':=by
 have a9:=fM (P:=prog) 26 2 (H 0) 8 underlying26 RH R S6 S6 n O O
 go_in
 go_wp2
 go_loopw [18] (λi wr=>∃a:N,a<=m/\i=H a/\Sw (Z w.1) w wr/\Q (N5 wr (Z w.1+1) n (BX<|x.take a))) λi _=>m-(JB i).toNat
 .exact⟨0,aN,R,Xb (Xb Rf _) _,by have:=N5.born (D w<|Sc #[H n,X p m c] 25) n;rw[aO]at this;exact this⟩
 obtain⟨a,hk,rfl,u,C⟩:=hrel;by_cases a8:a<m
 .have P:a<J x:=oN hx.o
  obtain⟨a2,bc,rfl,⟨_,a5⟩,O_⟩:=ha a P;have HC:=Y O_;have a1:Q (BX (x.take<|a+1)=BX (x.take a)++(XG x[a].1++XI x[a].2)):=by show _=_;rw[X7 P,U0];rfl
  have a6:J (BX<|x.take a)+(J x[a].1+JG x[a].1+J x[a].2)<=1048576:=by have M:=UX x<|a+1;rw[X7 P,Vm]at M;have h2:=KP<|x.take a;have g:=hs.o;have h4:ZZ x[a]=J x[a].1+JG x[a].1+J x[a].2:=R;omega
  have ba:J x[a].1<=1048576:=O;have a7:J x[a].2<=1048576:=O;let⟨ad,af⟩:=hd _<|aH P;have ao:=Y ad;have ap:=Y af;let⟨pa,pc,V,ic,e0,e1,⟨e2,e3,e4,e5⟩,hp,hi⟩:=O_.keep (u.mono hB) O;have W_:=Y hp;have U_:=Y hi;have r:=Y<|C.below (Xb (dC (Z wr.1) wr) (Sc #[X pa (J x[a].1) pc,X V (J x[a].2) ic,H x[a].3.1,H x[a].3.a,H x[a].3.3,H x[a].3.4] 52));have a3:=C.lt;clear O_ ad af hp hi C;generalize hX:x[a]=K at*;clear hX;generalize BX (x.take a)=L at*;have bb:=u.4;go_wp2;generalize Y_:Z wr.1=M_ at*;have V_:=Y Y_;clear Y_ e0 e1 e2 e3 e4 e5
  go_loopw [25] (λi b=>∃j:N,j<=J K.1/\i=H j/\Sw (Z w.1) w b/\M_<Z b.1/\E b (A M_ 1)=S (X V (J K.2) ic)/\Q (N5 b (Z w.1+1) n (L++XG (K.1.take j)))/\Q (Jw b k B pa K.1)/\Q (YY b k B V K.2)) λi _=>J K.1-(JB i).toNat
  .have aq:=Xw V_;subst aq;exact⟨0,aN,R,Xb u _,sP,sP,by show N5 _ _ _ _;simpa [XG]using r.o,W_.keep (Xb (dC (Z wr.1) wr) _ |>.mono O),U_.keep (Xb (dC (Z wr.1) wr) _ |>.mono O)⟩
  clear r u;obtain⟨j,hj,rfl,e,F,ac,s,R_,h⟩:=hrel;have aj:=e.4;by_cases d:j<J K.1
  .obtain⟨b',o',rfl,⟨_,az⟩,aa,cc,L_,N_,_⟩:=R_ j d;have g:Q (L++XG (K.1.take<|j+1)=(L++XG (K.1.take j))++[K.1[j].1]):=by show _=_;rw[X7 d,Wj,cK]
   have hl:J (L++XG (K.1.take j))<=1048576:=by simp[XG];omega
   let⟨W,q1⟩:=ao _<|aH d;generalize K.1[j]=P_ at*;generalize L++XG (K.1.take j)=v at*;let⟨K_,ar⟩:=P_;dsimp only at W q1 L_ N_ g;obtain⟨t,rfl⟩:=bX W;have S_:t<n:=O;have f:=s.below<|Xb (dC (Z wr.1) wr) (Sc #[H t,X aa (J ar) cc] 152);let⟨k0,T⟩:=f.cell S_;have a0:=WZ v t;have y:=Y f;clear f;generalize hQ:F5 v t=Q_ at*;have l:=Y hQ;clear hQ;go_wp2;refine⟨⟨j+1,O,gM,(Xb e _).setCell SG _,by rw[Xd];simp;omega,?_,?_,?_,?_⟩,SA⟩
   .rw[cJ<|by intro z;cases z;omega];exact oB (Xb (dC (Z wr.1) wr) _) ac F
   .rw[g.o];exact y.step<|by rw[l.o]
   .exact R_.keepS<|(ZU (Xb (dC (Z wr.1) wr) _ |>.mono O)).setCell (aZ<|by dsimp only;omega) _
   exact h.keepS<|(ZU (Xb (dC (Z wr.1) wr) _ |>.mono O)).setCell (aZ<|by dsimp only;omega) _
  have o:=Y<|aW (l:=K.1) (i:=j) O;go_wp2
  go_loopw [40] (λi b=>∃j:N,j<=J K.2/\i=H j/\Sw (Z w.1) w b/\M_<Z b.1/\Q (N5 b (Z w.1+1) n (L++XG K.1++XI (K.2.take j)))/\Q (YY b k B V K.2)) λi _=>J K.2-(JB i).toNat
  .exact⟨0,aN,R,e,F,by have:=s.o;rw[o.o]at this;show N5 _ _ _ _;simpa [XI]using this,h⟩
  clear e F ac s R_ h o aj;obtain⟨j,hj,rfl,e,F,s,h⟩:=hrel;have aj:=e.4;by_cases d:j<J K.2
  .obtain⟨b',o',rfl,⟨_,az⟩,L_,N_,g2,g3,g4⟩:=h j d;have g:Q (L++XG K.1++XI (K.2.take<|j+1)=(L++XG K.1++XI (K.2.take j))++(if dB K.2[j].1 then [K.2[j].2]else [])):=by show _=_;rw[X7 d,Vx,<-cK]
   have hl:J (L++XG K.1++XI (K.2.take j))<=1048576:=by have:=TP<|K.2.take j;simp[XG]at this |-;omega
   let⟨W,q1,q2⟩:=ap _<|aH d;generalize K.2[j]=P_ at*;generalize L++XG K.1++XI (K.2.take j)=v at*;let⟨op,K_,pA,pB,pI⟩:=P_;dsimp only at W q1 q2 L_ N_ g2 g3 g4 g;obtain⟨H_,rfl⟩:=bX (show 0<=op by omega);have Z_:=hT.keep<|Xb e (Sc #[H H_,H K_,H pA,H pB,H pI] 64);let⟨bd,_,c1,_,_,_⟩:=Z_.2 H_ O O;have a4:0<Z wr.1:=O;have f:=s.below<|Xb (dC (Z wr.1) wr) (Sc #[H H_,H K_,H pA,H pB,H pI] 64);clear Z_;cases hdb:dB H_
   .rw[hdb]at c1;have J_:=Y hdb;have y:=Y f;clear hdb f q2;go_wp2;refine⟨⟨j+1,O,gM,Xb e _,SB,?_,?_⟩,SA⟩
    .rw[g.o,J_.o];show N5 _ _ _ _;simpa using y.o
    exact h.keepS<|ZU (Xb (dC (Z wr.1) wr) _ |>.mono O)
   let⟨q3,q4⟩:=q2 hdb;rw[hdb]at c1;have J_:=Y hdb;obtain⟨t,rfl⟩:=bX q3;have S_:t<n:=O;let⟨k0,T⟩:=f.cell S_;have a0:=WZ v t;have y:=Y f;clear hdb f q2;generalize hQ:F5 v t=Q_ at*;have l:=Y hQ;clear hQ;go_wp2;refine⟨⟨j+1,O,gM,(Xb e _).setCell SG _,by rw[Xd];simp;omega,?_,?_⟩,SA⟩
   .rw[g.o,J_.o,aU R];exact y.step<|by rw[l.o]
   exact h.keepS<|(ZU (Xb (dC (Z wr.1) wr) _ |>.mono O)).setCell (aZ<|by dsimp only;omega) _
  have o:=Y<|aW (l:=K.2) (i:=j) O;go_wp2;exact⟨⟨a+1,O,gM,e,by have:=s.o;rw[o.o]at this;rw[a1.o,<-cK];exact this⟩,SA⟩
 have o:=Y<|aW (l:=x) (i:=a) (oN hx.o);have r:=C.o;rw[o.o]at r;have al:=Y r;clear r C;go_wp2
 go_loop [60] (λi=>∃j:N,j<=n/\i=H j/\Q (∀q,q<j->F5 (BX x) (q:N)=1)) λi=>n-(JB i).toNat
 .exact⟨0,aN,R,λq hq=>Sz hq O⟩
 obtain⟨j,hj,rfl,ab⟩:=hrel;by_cases d:j<n
 .let⟨k0,T⟩:=al.cell d;generalize hQ:F5 (BX x) (j:N)=Q_ at*;have l:=Y hQ;clear hQ T;by_cases M:Q_=1
  .subst M;go_wp2
   go_round
   .exact⟨j+1,O,gM,λq hq=>if z:q=j then by subst z;exact l else ab q O⟩
   simp[JB];omega
  have h2:((Q_:I) != 1)=So:=by rw[jJ];omega
  have H1:=Y M;clear M;go_wp2;go_ret
  exact⟨Xl (by symm;unfold JM;rw[lZ];exact⟨j,by simpa using d,by simp only[l.o,iA];exact H1⟩),u⟩
 go_wp2;go_ret
 exact⟨Xl (by symm;unfold JM;rw[dV];intro q hq;rw[iA];exact ab q<|by simp at hq;omega),u⟩
section
def Yu{T:Type}(f:N->T->List Value):N->List T->List Value
 |_,[]=>[]
 |k,x::xs=>f k x++Yu f (k+1) xs
variable {T: Type} {f f': N -> T -> Wo} {sz: N}
theorem Zn(b:∀k x,J (f k x)=sz):∀(k:N)(a:List T),J (Yu f k a)=J a*sz
 |_,[]=>by simp[Yu]
 |k,x::a=>by rw[Yu,aQ,b,Zn b,bA,jK,jL,yy]
theorem Xz(b:∀k x,J (f k x)=sz):∀(k:N)(a:List T)(i:N)(h:i<J a)(q:N),q<sz->(Yu f k a)[i*sz+q]?=(f (k+i) a[i])[q]?
 |_,[],_,h,_,_=>Sz h sP
 |k,x::a,0,_,q,hq=>by rw[Yu,lC,aV,dL<|by rw[b];exact hq];rfl
 |k,x::a,i+1,h,q,hq=>by rw[Yu,eV (by rw[b,jK,jL];omega),b,show(i+1)*sz+q-sz=i*sz+q by rw[jK,jL];omega,Xz b (k+1) a i SI q hq,fO,show k+1+i=k+(i+1) by omega]
theorem Zo:∀(k:N)(a:List T)(x:T),Yu f k (a++[x])=Yu f k a++f (k+J a) x
 |k,[],x=>by simp[Yu]
 |k,y::a,x=>by rw[cW,Yu,Yu,Zo (k+1) a x,cK,bA,show k+1+J a=k+(J a+1) by omega]
structure Xv(w:Ub)(lab:N->N×N×N)(L:N×N×N)(base t sz:N)(v:Uj)(n:N)(cs:Wo):Prop where
 own:Sx w base t sz v n cs
 lab:∀b,v.ownBlock=S b->lab b=L
theorem Zl{w w':Ub}{a t sz:N}{v:Uj}{n}{c:Wo}(h:Sx w a t sz v n c)(o:∀b,v.ownBlock=S b->w'.1[b]?=w.1[b]?):Sx w' a t sz v n c:=by
 obtain⟨d,h|⟨g,e,i,j,l,m,k⟩⟩:=h;·exact⟨d,bC h⟩
 subst j;exact⟨d,aZ ⟨g,e,i,R,l,G (o g R) m,k⟩⟩
theorem Xv.keep{w w'}{d g:N->N×N×N}{L:N×N×N}{a t sz v n c}(h:Xv w d L a t sz v n c)(k:∀b,a<=b->b<Z w.1->d b=L->w'.1[b]?=w.1[b]?/\g b=L):Xv w' g L a t sz v n c :=
 ⟨Zl h.1 λb e=>(k b (h.1.lt b e).1 (h.1.lt b e).2 (h.2 b e)).1,λb e=>(k b (h.1.lt b e).1 (h.1.lt b e).2 (h.2 b e)).2⟩
theorem Xv.set{w}{d:N->N×N×N}{L:N×N×N}{a t sz g n c b}(h:Xv w d L a t sz (X (S ⟨g,0,U⟩) n c) n b)(q)(u:Uj):Xv (Se w ⟨g,q,U⟩ u) d L a t sz (X (S ⟨g,0,U⟩) n c) n (b.set q u):=⟨qO h.1 u,h.2⟩
theorem Xv.thaw{w}{d:N->N×N×N}{L:N×N×N}{a t sz g n c b}(h:Xv w d L a t sz (Hl g n c) n b)(q):w.frozen? (A g q)=Sn:=h.1.frozenAt q
theorem Xv.cell{w}{e:N->N×N×N}{L:N×N×N}{b t sz g n c a}(h:Xv w e L b t sz (Hl g n c) n a){q:N}{u:Uj}(d:a[q]?=S u):E w (A g q)=S u:=Jj h.1 d
theorem Xv.blk{w}{b:N->N×N×N}{L:N×N×N}{a t sz g n c d}(h:Xv w b L a t sz (Hl g n c) n d):(a<=g/\g<Z w.1)/\b g=L:=⟨h.1.lt g R,h.2 g R⟩
theorem Xv.got{w}{lab:N->N×N×N}{L:N×N×N}{a t sz n v b}(h:Xv w lab L a t sz v n b)(d:0<n):∃g c,v=X (S ⟨g,0,U⟩) n c:=by let⟨g,c,e,_⟩:=Xm h.1 d;exact⟨g,c,e⟩
theorem Xv.form{w}{lab:N->N×N×N}{L:N×N×N}{b t sz n v d}(h:Xv w lab L b t sz v n d):∃a c,v=X a n c:=by
 obtain⟨e,h0⟩|⟨g,cap,_,e,_⟩:=h.1.2;·exact⟨U,0,by rw[e,h0]⟩
 exact⟨_,_,e⟩
end
section
variable {w w1: Ub} {L B b t N_: N} {f: N -> Uj}
theorem S3{w e:Ub}{a t d n:N}{v:Uj}{c:Wo}(h:Sx w a t d v n c)(i:Sw (Z w.1) w e):Sx e a t d v n c:=Zl h λb g=>i.5 b (h.lt b g).2
end
def sI(l:Wn):Wo:=l.map λb=>Si .u8 (b.toNat:I)
theorem My{l:Wn}(b:UInt8):sI (l++[b])=sI l++[Si .u8 (b.toNat:I)]:=by simp[sI]
theorem Qo{bs:Wn}(r:Sx w n m 1 a k (sI bs)):∃f c L B,a=X f (J bs) c/\Yx w L B f bs/\iy L B w/\((L=0/\B=0)\/(B=L+1/\n<=L/\L<Z w.1)):=by
 obtain⟨p,h|⟨g,cap,q,rfl,t,e,z,_,C,x⟩⟩:=r
 .have:bs=[]:=by
   have s:=h.2;subst s;simpa [sI]using p
  subst this;exact⟨U,0,0,0,h.1,λi d=>Sz d sP,λb o l=>Sz l O,bC ⟨R,R⟩⟩
 have u:g<Z w.1:=(aS.1 e).1;have v:k=J bs:=by simpa [sI]using p.symm
 subst v;refine⟨_,_,g,g+1,R,λi d=>⟨g,0,R,⟨aA,iJ⟩,?_⟩,λb o l=>?_,aZ ⟨R,t,u⟩⟩
 .rw[aV,uE w g i q m (0,0) e,<-mX];have j:=fI (λy:Wo=>y[i]?) x;simp only[List.getElem?_take,iN,d,gG]at j;rw[j];simp[sI,d]
 have:b=g:=O;subst this;unfold World.frozen?;rw[e];simp
structure cB where
 code:Wn
 pos:N
 mix:I
 size:I
def iw(s:cB)(n:I):I×cB :=
 if n<=1 then (0,s)
 else if s.2<J s.1/\n<=256 then (((s.1.getD s.2 0).toNat:I)%n,{ s with pos:=s.2+1 })
 else ((s.3*1103+12347)%1000003/3%n,{ s with mix:=(s.3*1103+12347)%1000003 })
structure Rd(s:cB):Prop where
 len:J s.1<=4000
 pos:s.2<=J s.1
 mix:0<=s.3/\s.3<1000003
 size:1<=s.4/\s.4<=7
theorem nj{s:cB}(h:Rd s):Rd (iw s t).2:=by
 unfold iw;split;·exact h
 split
 .rename_i a;exact⟨h.1,a.1,h.3,h.4⟩
 refine⟨h.1,h.2,?_,h.4⟩;show 0<=(s.3*1103+12347)%1000003/\(s.3*1103+12347)%1000003<1000003;omega
theorem kr(s:cB){n:I}(h:1<=n):0<=(iw s n).1/\(iw s n).1<n:=by
 unfold iw;split;·exact⟨zP _,by show(0:I)<n;omega⟩
 split;·exact⟨mR _ O,lM _ O⟩
 exact⟨mR _ O,lM _ O⟩
structure Rn(w:Ub)(b L B:N)(s:cB):Prop where
 c0:∃a c,E w ⟨b,0,U⟩=S (X a (J s.1) c)/\Yx w L B a s.1
 c1:E w ⟨b,1,U⟩=S (Si S6 s.2)
 c2:E w ⟨b,2,U⟩=S (Si S6 s.3)
 c3:E w ⟨b,3,U⟩=S (Si S6 s.4)
 thaw:∀q,w.frozen? ⟨b,q,U⟩=Sn
 o:¬(L<=b/\b<B)
theorem zQ{b:N}{bs:Wn}(c:Yx w m k p bs)(d:¬(m<=b/\b<k)):Yx (Se w ⟨b,n,U⟩ a) m k p bs:=c.keepS λe g h=>cY<|by show e≠b;intro f;exact d O
theorem Rn.mix{b:N}{s:cB}(h:Rn w b n k s)(m:I):Rn (Se w ⟨b,2,U⟩ (Si S6 m)).drew b n k { s with mix:=m }:=by obtain⟨a,c,d,e⟩:=h.1;exact⟨⟨a,c,G (XL w b O _) d,zQ e h.o⟩,G (XL w b O _) h.2,fQ w _ _ h.3,G (XL w b O _) h.4,λq=>by show(Se w _ _).frozen? _=Sn;rw[eX];exact h.5 q,h.o⟩
theorem Rn.pos{b:N}{s:cB}(h:Rn w b n k s)(m:N):Rn (Se w ⟨b,1,U⟩ (Si S6 m)).drew b n k { s with pos:=m }:=by obtain⟨a,c,d,e⟩:=h.1;exact⟨⟨a,c,G (XL w b O _) d,zQ e h.o⟩,fQ w _ _ h.2,G (XL w b O _) h.3,G (XL w b O _) h.4,λq=>by show(Se w _ _).frozen? _=Sn;rw[eX];exact h.5 q,h.o⟩
theorem Rn.drew{b:N}{s:cB}(h:Rn w b n m s):Rn w.drew b n m s:=⟨h.1,h.2,h.3,h.4,h.5,h.o⟩
theorem By(w:Ub)(b q:N)(v:Uj):w.grownBy (Se w ⟨b,q,U⟩ v).drew (S b):=⟨R,R,R,by simp[World.setCell,World.drew],λk _ a=>cY λe=>a<|by rw[e]⟩
theorem Qm{b:N}(s:cB)(a:Q (Rn w b n m s))(k:Q (Rd s))(M:t<=1000000)(P:-1000000<=t):
 Sk prog 12 #[Hn b,H t] w λK v=>K=Rt (H (iw s t).1)/\Rn v b n m (iw s t).2/\w.grownBy v (S b):=by
 obtain⟨F,c,V,p⟩:=a.1;have e1:=a.2;have e2:=a.3;have W:=a.5 1;have T:=a.5 2;have x:=Y p;clear p;have O_:=k.2;have K_:=k.1;have L_:=k.3;have d:Q (iw s t=if t<=1 then (0,s)else if s.2<J s.1/\t<=256 then (((s.1.getD s.2 0).toNat:I)%t,{ s with pos:=s.2+1 })else ((s.3*1103+12347)%1000003/3%t,{ s with mix:=(s.3*1103+12347)%1000003 })):=Y R;by_cases i:t<=1
 .have e:Q (iw s t=(0,s)):=Y (by rw[d.o,aU i]);clear d
  go_in
  go_wp2;go_ret;rw[e.o];exact⟨R,a.o,⟨R,R,R,aA,λ_ _ _=>R⟩⟩
 by_cases f:s.2<J s.1/\t<=256
 .have e:Q (iw s t=(((s.1.getD s.2 0).toNat:I)%t,{ s with pos:=s.2+1 })):=Y (by rw[d.o,aM i,aU f]);obtain⟨h,j⟩:=f;obtain⟨G_,R_,rfl,B,J_⟩:=x.o s.2 h;have y:Q (s.1.getD s.2 0=s.1[s.2]):=Y (by simp[h]);have I_:s.1[s.2].toNat<256:=lQ _;have E_:=Y a.o;generalize s.1[s.2]=z at*;generalize C:z.toNat=l at*;have L:((l:N):I).tmod t=(l:I)%t:=eW O;clear d B;have r:(s.2:I)<(J s.1:I):=O;generalize q:J s.1=o at*
  go_in
  go_wp2;go_region;go_wp2;go_region;go_wp2;go_ret;rw[e.o];have u:=(a.pos<|s.2+1).drew;have g:=(By w b 1<|H ((s.2+1:N):I));rw[kB]at u g;refine⟨?_,u,⟨g.1,g.2,g.3,g.4,g.5⟩⟩;rw[y.o,C];rfl
 have e:Q (iw s t=((s.3*1103+12347)%1000003/3%t,{ s with mix:=(s.3*1103+12347)%1000003 })):=Y (by rw[d.o,aM i,aM f]);have L:(s.3*1103+12347).tmod 1000003=(s.3*1103+12347)%1000003:=eW O;have P_:((s.3*1103+12347)%1000003).tdiv 3=(s.3*1103+12347)%1000003/3:=fY O;have Q_:((s.3*1103+12347)%1000003/3).tmod t=(s.3*1103+12347)%1000003/3%t:=eW O;clear d;by_cases h:s.2<J s.1
 .have j:¬t<=256:=λj=>f ⟨h,j⟩;clear f;have r:(s.2:I)<(J s.1:I):=O;generalize q:J s.1=o at*
  go_in
  go_wp2;go_region;go_wp2;go_ret;rw[e.o];exact⟨R,a.mix _,By _ _ _ _⟩
 clear f;have r:¬(s.2:I)<(J s.1:I):=O;generalize q:J s.1=o at*
 go_in
 go_wp2;go_region;go_wp2;go_ret;rw[e.o];exact⟨R,a.mix _,By _ _ _ _⟩
def S9(c:Wn)(m:I):I:=c.foldl (λm b=>(m*257+(b.toNat:I)+1)%1000003) m
def im(bs:Wn):cB:=⟨bs.take 4000,0,S9 (bs.take 4000) (((J bs%1000:N):I)+29),if 1+((J (bs.take 4000):N):I)/50 > 7 then 7 else 1+((J (bs.take 4000):N):I)/50⟩
theorem zY:∀(c:Wn)(m:I),0<=m->m<1000003->0<=S9 c m/\S9 c m<1000003
 |[],m,h0,h1=>⟨h0,h1⟩
 |b::c,m,h0,h1=>zY c _ (mR _ vY) (lM _ vY)
theorem Qy{c:Wn}{m:I}(h:n<J c):S9 (c.take<|n+1) m=(S9 (c.take n) m*257+(c[n].toNat:I)+1)%1000003:=by unfold S9;rw[bN h,dT];rfl
theorem WF(bs:Wn):Rd (im bs):=by
 refine⟨?_,aN,zY _ _ O (by have:=dS (J bs) (show 0<1000 by decide);omega),?_⟩
 .show J (bs.take 4000)<=4000;rw[dH];omega
 unfold im;dsimp only;split<;>omega
theorem Ka{T:Type}{a:List T}(d:T)(h:n<J a):a.getD n d∈a:=by rw[show a.getD n d=a[n] by simp[h]];exact aH h
def Jn(w:Ub):Prop:=∀j,j<64->E w ⟨2,j,U⟩=S (Si .u8 (Lib.deBruijn64tab.getD j 0))
theorem Jn.of_block(h:Jn w)(e:v.1[(2: N)]?=w.1[(2: N)]?):Jn v:=λj a=>G (Xc (o:=j) e) (h j a)
theorem Fu(b:n<18446744073709551616)(c:n≠0)(a:n&&&(18446744073709551616-n)=m):
 IntKind.u64.wrap (bits BinOp.and IntKind.u64 (n:I) (IntKind.u64.wrap (-(n:I)))*285870213051353865)/288230376151711744=((m*285870213051353865%18446744073709551616/288230376151711744:N):I):=by
 have e1:IntKind.u64.wrap (-(n:I))=((18446744073709551616-n:N):I):=by rw[iV];omega
 rw[e1,bits_and_u64_nat n _ b O,a,iV];omega
theorem Fb{Gb:N}(g:((n:I)==0)=Sn)(a:IntKind.u64.wrap (bits BinOp.and IntKind.u64 (n:I) (IntKind.u64.wrap (-(n:I)))*285870213051353865)/288230376151711744=(Gb:I))(d:Gb<64)(f:m<64)(c:E w (A 2 Gb)=S (Si .u8 m)):
 Sk prog 127 #[Si .u64 n] w λe b=>e=Rt (H m)/\b=w:=by
 go_in
 go_wp2_with (simp only[a])
 go_ret;exact⟨R,R⟩
theorem Fj(d:n<18446744073709551616)(e:n≠0)(w)(g:Q (Jn w)):
 Sk prog 127 #[Si .u64 n] w λf j=>f=Rt (H (Lib.ctz 64 n:N))/\j=w:=by
 let⟨h,c⟩:=Lib.lowest_bit 64 n e d;let⟨b,i⟩:=Lib.deBruijn64_at _ c;have a:=g _ b;rw[i]at a;exact Fb SB (Fu d e h) b c a
theorem qh(a:n≠0)(h:n<2^64):∃m,n=2^Lib.ctz 64 n*(2*m+1)/\Lib.ctz 64 n<64:=by
 have e:Lib.ctz 64 n=Lib.ctzFrom 64 n:=by simp[Lib.ctz,a]
 rw[e];exact Lib.ctzFrom_spec 64 n O h
theorem qo:(2^c*n).testBit m=(Jd (c<=m)&&n.testBit (m-c)):=by rw[Nat.mul_comm,Nat.testBit_mul_two_pow]
theorem Et:(2*n+1).testBit m=(Jd (m=0)||(2*n).testBit m):=by
 cases m with
 |zero=>simp
 |succ m=>
  rw[Nat.testBit_succ,Nat.testBit_succ];have d1:(2*n+1)/2=n:=O;have d2:2*n/2=n:=O;rw[d1,d2];simp
theorem EY(b:n≠0)(h:n<2^64)(i):(n&&&(n-1)).testBit i=(n.testBit i&&Jd (i≠Lib.ctz 64 n)):=by
 let⟨m,a,g⟩:=qh b h;generalize Lib.ctz 64 n=c at*;have j:=Nat.two_pow_pos c;have e1:n-1=2^c*(2*m)+(2^c-1):=by rw[a,Nat.mul_add];omega
 rw[jW,e1,iH _ O,a,qo];by_cases f:i<c
 .have:¬c<=i:=O;simp[this]
 have d:c<=i:=O;simp only[f,d,decide_true,rS,fD];rw[Et];by_cases e:i=c;·subst e;simp
 have:¬i-c=0:=O;simp[this,e]
theorem Fs(a:n≠0)(h:n<2^64):n.testBit (Lib.ctz 64 n)=So/\∀i,i<Lib.ctz 64 n->n.testBit i=Sn:=by
 let⟨m,b,d⟩:=qh a h;generalize Lib.ctz 64 n=c at*;rw[b];refine⟨?_,λi e=>?_⟩;·rw[qo];simp
 rw[qo];have:¬c<=i:=O;simp[this]
def Mq(W:Wk)(p:N):Wa:=(Rg p).filter (Xh W)
theorem qB(c:n<=m)(h:∀i,n<=i->i<m->Xh f i=Sn):Mq f m=Mq f n:=by
 unfold Mq;obtain⟨d,rfl⟩:∃d,m=n+d:=⟨m-n,O⟩;rw[lI,eU];have:((Rg d).map (n + ·)).filter (Xh f)=[]:=by rw[mJ];intro x b;obtain⟨j,a,rfl⟩:=aY.1 b;rw[h (n+j) O (oN<|bE.1 a)];simp
 rw[this,fF]
theorem EP(a:n<=m)(h:∀i,n<=i->i<m->Xh f i=Sn)(hq:Xh f m=So):Mq f (m+1)=Mq f n++[m]:=by rw[<-qB a h];unfold Mq;rw[dN,eU];simp[hq]
theorem om:m∈Mq f n↔m<n/\Xh f m=So:=by unfold Mq;rw[fG,bE]
end Go.Proofs.YtcncjgijikoapaaGreatDoor
